package sample_test

import (
	"math"
	"math/big"
	"slices"
	"testing"

	"calx/api"
	"calx/sample"
)

// noBarrows is numbers of barrows, and of bad ones, that cannot be.
func noBarrows() [][2]int {
	return [][2]int{
		{0, 0}, {-1, 0}, {-1, -1}, {api.MaxBarrows + 1, 2}, {5, -1}, {5, 6}, {math.MinInt, 0}, {math.MaxInt, 0}, {5, math.MaxInt}, {5, math.MinInt},
	}
}

func TestAtMost(t *testing.T) {
	for _, x := range []struct {
		barrows, bad, taken, most, ways int
		want                            api.Errno
	}{
		{5, 2, 2, 0, 3, api.OK}, {5, 2, 2, 1, 9, api.OK}, {5, 2, 2, 2, 10, api.OK}, {5, 2, 2, 3, 10, api.OK}, {5, 2, 2, math.MaxInt, 10, api.OK},
		{5, 2, 0, 0, 1, api.OK}, {5, 2, 5, 2, 1, api.OK}, {5, 2, 5, 1, 0, api.OK}, {1, 1, 1, 0, 0, api.OK}, {5, 0, 3, 0, 10, api.OK}, {5, 5, 3, 2, 0, api.OK},
		{api.MaxBarrows, 25, 25, 50, 126410606437752, api.OK},
		{5, 2, 2, -1, 0, api.ErrArg}, {5, 2, 6, 0, 0, api.ErrArg}, {5, 2, -1, 0, 0, api.ErrArg}, {5, 2, math.MaxInt, 0, 0, api.ErrArg}, {5, 2, 2, math.MinInt, 0, api.ErrArg},
	} {
		if ways, e := sample.AtMost(x.barrows, x.bad, x.taken, x.most); ways != x.ways || e != x.want {
			t.Error("P3.7:", x, ways, e)
		}
	}
	for _, x := range noBarrows() {
		if ways, e := sample.AtMost(x[0], x[1], 0, 0); ways != 0 || e != api.ErrArg {
			t.Error("P3.7:", x, ways, e)
		}
	}
	for barrows := 1; barrows <= 7; barrows++ {
		for bad := range barrows + 1 {
			for taken := range barrows + 1 {
				want := 0
				for most := range barrows + 2 {
					want += withBad(barrows, bad, taken, most)
					if ways, e := sample.AtMost(barrows, bad, taken, most); ways != want || e != api.OK {
						t.Error("P3.7:", barrows, bad, taken, most, ways, want, e)
					}
				}
			}
		}
	}
}

func TestLevelErrors(t *testing.T) {
	for name, of := range map[string]func(barrows, taken, seen int, level api.Ratio) (int, api.Errno){"Upper": sample.Upper, "Lower": sample.Lower} {
		for _, x := range []struct {
			barrows, taken, seen int
			want                 api.Errno
		}{
			{5, 2, 0, api.OK}, {5, 2, 2, api.OK}, {5, 5, 5, api.OK}, {5, 0, 0, api.OK}, {1, 1, 0, api.OK}, {api.MaxBarrows, 50, 50, api.OK},
			{0, 0, 0, api.ErrArg}, {-1, 0, 0, api.ErrArg}, {api.MaxBarrows + 1, 1, 1, api.ErrArg}, {math.MaxInt, 1, 1, api.ErrArg},
			{5, 6, 0, api.ErrArg}, {5, -1, 0, api.ErrArg}, {5, 2, 3, api.ErrArg}, {5, 2, -1, api.ErrArg}, {5, 2, math.MaxInt, api.ErrArg}, {5, 2, math.MinInt, api.ErrArg}, {5, math.MinInt, 0, api.ErrArg},
		} {
			n, e := of(x.barrows, x.taken, x.seen, ratio(1, 2))
			if e != x.want || e != api.OK && n != 0 {
				t.Error("P3.7:", name, x, n, e)
			}
		}
	}
	if n, e := sample.Upper(5, 2, 0, ratio(3, 10)); n != 2 || e != api.OK {
		t.Error("P3.7:", n, e)
	}
	if n, e := sample.Lower(5, 2, 1, ratio(1, 2)); n != 2 || e != api.OK {
		t.Error("P3.7:", n, e)
	}
}

// TestUpperLower: levels are found among all numbers of bad barrows; they narrow with the level; and the true number lies between them.
func TestUpperLower(t *testing.T) {
	for barrows := 1; barrows <= 6; barrows++ {
		for taken := range barrows + 1 {
			for seen := range taken + 1 {
				few, most := make([]*big.Rat, barrows+1), make([]*big.Rat, barrows+1)
				told := levels()
				for bad := range few {
					few[bad], most[bad] = between(barrows, bad, taken, 0, seen), between(barrows, bad, taken, seen, taken)
					told = append(told, lowest(few[bad]), lowest(most[bad]))
				}
				slices.SortFunc(told, func(a, b api.Ratio) int { return exact(a).Cmp(exact(b)) })
				last := span(0, barrows)
				for _, level := range told {
					upper, e1 := sample.Upper(barrows, taken, seen, level)
					lower, e2 := sample.Lower(barrows, taken, seen, level)
					want := span(barrows, 0)
					for bad := range few {
						isFew, isMany := few[bad].Cmp(exact(level)) >= 0, most[bad].Cmp(exact(level)) >= 0
						if isFew {
							want.Hi = max(want.Hi, bad)
						}
						if isMany {
							want.Lo = min(want.Lo, bad)
						}
						if isFew && isMany && (bad < lower || bad > upper) {
							t.Error("P3.18:", barrows, taken, seen, level, bad, lower, upper)
						}
					}
					if lower != want.Lo || upper != want.Hi || e1 != api.OK || e2 != api.OK {
						t.Error("P3.7:", barrows, taken, seen, level, lower, upper, want, e1, e2)
					}
					if upper > last.Hi || lower < last.Lo {
						t.Error("P3.18: with a greater level:", barrows, taken, seen, level, lower, upper, last)
					}
					last = span(lower, upper)
				}
			}
		}
	}
}

// exactly is the chance, as exact as can be, that from lo to hi of those taken are bad.
func exactly(barrows, bad, taken, lo, hi int) *big.Rat {
	part := new(big.Int)
	for n := lo; n <= hi && n <= taken; n++ {
		part.Add(part, new(big.Int).Mul(binomial(bad, n), binomial(barrows-bad, taken-n)))
	}
	return new(big.Rat).SetFrac(part, binomial(barrows, taken))
}

// TestGreatLevels: with the most barrows all numbers are still exact.
func TestGreatLevels(t *testing.T) {
	for _, x := range [][2]int{{25, 0}, {25, 5}, {25, 25}, {24, 12}, {10, 1}, {50, 7}, {1, 1}, {49, 0}} {
		taken, seen := x[0], x[1]
		for _, level := range append(levels(), ratio(9997, 9999), ratio(1, 9999)) {
			want := span(api.MaxBarrows, 0)
			for bad := range api.MaxBarrows + 1 {
				few := exactly(api.MaxBarrows, bad, taken, 0, seen)
				if few.Cmp(exact(level)) >= 0 {
					want.Hi = max(want.Hi, bad)
				}
				if exactly(api.MaxBarrows, bad, taken, seen, taken).Cmp(exact(level)) >= 0 {
					want.Lo = min(want.Lo, bad)
				}
				if ways, e := sample.AtMost(api.MaxBarrows, bad, taken, seen); e != api.OK || new(big.Rat).SetFrac(big.NewInt(int64(ways)), binomial(api.MaxBarrows, taken)).Cmp(few) != 0 {
					t.Error("P3.7:", bad, taken, seen, ways, e)
				}
			}
			upper, e1 := sample.Upper(api.MaxBarrows, taken, seen, level)
			lower, e2 := sample.Lower(api.MaxBarrows, taken, seen, level)
			if lower != want.Lo || upper != want.Hi || e1 != api.OK || e2 != api.OK {
				t.Error("P3.7:", x, level, lower, upper, want, e1, e2)
			}
		}
	}
}

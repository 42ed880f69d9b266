package sample_test

import (
	"math"
	"math/big"
	"testing"

	"calx/api"
	"calx/sample"
)

func TestChoose(t *testing.T) {
	for _, x := range []struct {
		barrows, taken, ways int
		want                 api.Errno
	}{
		{5, 2, 10, api.OK}, {3, 4, 0, api.OK}, {0, 0, 1, api.OK}, {0, 1, 0, api.OK}, {7, 0, 1, api.OK}, {7, 7, 1, api.OK}, {7, 8, 0, api.OK},
		{api.MaxBarrows, 25, 126410606437752, api.OK}, {api.MaxBarrows, 51, 0, api.OK}, {api.MaxBarrows, math.MaxInt, 0, api.OK},
		{api.MaxBarrows + 1, 2, 0, api.ErrArg}, {-1, 0, 0, api.ErrArg}, {5, -1, 0, api.ErrArg}, {-1, -1, 0, api.ErrArg},
		{math.MaxInt, 1, 0, api.ErrArg}, {math.MinInt, 1, 0, api.ErrArg}, {5, math.MinInt, 0, api.ErrArg},
	} {
		if ways, e := sample.Choose(x.barrows, x.taken); ways != x.ways || e != x.want {
			t.Error("P3.1:", x, ways, e)
		}
	}
	for barrows := range api.MaxBarrows + 1 {
		for taken := range 60 {
			ways, e := sample.Choose(barrows, taken)
			if e != api.OK || binomial(barrows, taken).Cmp(big.NewInt(int64(ways))) != 0 {
				t.Error("P3.1:", barrows, taken, ways, e)
			}
			if taken > barrows {
				continue
			}
			if rest, _ := sample.Choose(barrows, barrows-taken); rest != ways {
				t.Error("P3.12: the rest:", barrows, taken, ways, rest)
			}
		}
	}
}

func TestWaysErrors(t *testing.T) {
	for _, x := range []struct {
		name          string
		whole, seen   api.Kinds
		ways          int
		chance        api.Ratio
		eWays, eOther api.Errno
	}{
		{"example", api.Kinds{2, 3, 1}, api.Kinds{1, 1, 0}, 6, ratio(2, 5), api.OK, api.OK},
		{"nothing taken", api.Kinds{2, 3, 1}, api.Kinds{}, 1, ratio(1, 1), api.OK, api.OK},
		{"all taken", api.Kinds{2, 3, 1}, api.Kinds{2, 3, 1}, 1, ratio(1, 1), api.OK, api.OK},
		{"too many of a sort", api.Kinds{2, 3, 1}, api.Kinds{0, 0, 2}, 0, ratio(0, 1), api.OK, api.OK},
		{"other sorts", api.Kinds{2, 3, 1}, api.Kinds{3, 2, 1}, 0, ratio(0, 1), api.OK, api.OK},
		{"a barrow too many", api.Kinds{2, 3, 1}, api.Kinds{2, 3, 2}, 0, ratio(0, 0), api.OK, api.ErrRange},
		{"a sample of great numbers", api.Kinds{2, 3, 1}, api.Kinds{math.MaxInt, 0, 0}, 0, ratio(0, 0), api.OK, api.ErrRange},
		{"a sample of which the sum is out of range", api.Kinds{2, 3, 1}, api.Kinds{math.MaxInt, math.MaxInt, 4}, 0, ratio(0, 0), api.OK, api.ErrRange},
		{"one barrow", api.Kinds{0, 0, 1}, api.Kinds{0, 0, 1}, 1, ratio(1, 1), api.OK, api.OK},
		{"no whole", api.Kinds{}, api.Kinds{}, 0, ratio(0, 0), api.ErrArg, api.ErrArg},
		{"no whole, and too many", api.Kinds{}, api.Kinds{1, 0, 0}, 0, ratio(0, 0), api.ErrArg, api.ErrArg},
		{"a whole below 0", api.Kinds{4, -1, 3}, api.Kinds{}, 0, ratio(0, 0), api.ErrArg, api.ErrArg},
		{"as great a whole as can be", api.Kinds{49, 0, 1}, api.Kinds{1, 0, 0}, 49, ratio(49, 50), api.OK, api.OK},
		{"too great a whole", api.Kinds{49, 1, 1}, api.Kinds{1, 0, 0}, 0, ratio(0, 0), api.ErrArg, api.ErrArg},
		{"a whole of which the sum is out of range", api.Kinds{math.MaxInt, math.MaxInt, 3}, api.Kinds{}, 0, ratio(0, 0), api.ErrArg, api.ErrArg},
		{"a sample below 0", api.Kinds{2, 3, 1}, api.Kinds{-1, 0, 0}, 0, ratio(0, 0), api.ErrArg, api.ErrArg},
		{"a sample below 0 in the middle", api.Kinds{2, 3, 1}, api.Kinds{0, -1, 0}, 0, ratio(0, 0), api.ErrArg, api.ErrArg},
		{"a sample below 0 at last", api.Kinds{2, 3, 1}, api.Kinds{0, 0, math.MinInt}, 0, ratio(0, 0), api.ErrArg, api.ErrArg},
		{"no sample, and too many", api.Kinds{2, 3, 1}, api.Kinds{9, 9, -1}, 0, ratio(0, 0), api.ErrArg, api.ErrArg},
	} {
		if ways, e := sample.Ways(x.whole, x.seen); ways != x.ways || e != x.eWays {
			t.Error("P3.2: Ways:", x.name, ways, e)
		}
		if chance, e := sample.Chance(x.whole, x.seen); chance != x.chance || e != x.eOther {
			t.Error("P3.2: Chance:", x.name, chance, e)
		}
	}
}

// TestWays: ways are counted out, subset by subset; and of each size they add up to all, as chances do to 1.
func TestWays(t *testing.T) {
	for barrows := 1; barrows <= 6; barrows++ {
		for _, whole := range sized(barrows) {
			for size := range barrows + 1 {
				all, chances := 0, of(0, 1)
				total, _ := sample.Choose(barrows, size)
				for _, seen := range sized(size) {
					ways, e := sample.Ways(whole, seen)
					if e != api.OK || ways != waysOf(whole, seen) {
						t.Error("P3.2:", whole, seen, ways, e)
					}
					chance, e := sample.Chance(whole, seen)
					if e != api.OK || chance != lowest(of(ways, total)) {
						t.Error("P3.2:", whole, seen, chance, e)
					}
					all += ways
					chances.Add(chances, exact(chance))
				}
				if all != total || lowest(chances) != ratio(1, 1) {
					t.Error("P3.12, T3:", whole, size, all, total, chances)
				}
			}
		}
	}
}

func TestGreatWays(t *testing.T) {
	for _, whole := range []api.Kinds{{50, 0, 0}, {17, 17, 16}, {1, 24, 25}, {25, 0, 25}} {
		for _, size := range []int{0, 1, 17, 25, 50} {
			all := 0
			for _, seen := range sized(size) {
				ways, e := sample.Ways(whole, seen)
				want := new(big.Int).Mul(binomial(whole[0], seen[0]), binomial(whole[1], seen[1]))
				if want.Mul(want, binomial(whole[2], seen[2])); e != api.OK || want.Cmp(big.NewInt(int64(ways))) != 0 {
					t.Error("P3.2:", whole, seen, ways, e)
				}
				chance, e := sample.Chance(whole, seen)
				if e != api.OK || lowest(new(big.Rat).SetFrac(want, binomial(50, size))) != chance {
					t.Error("P3.2:", whole, seen, chance, e)
				}
				all += ways
			}
			if total, _ := sample.Choose(50, size); all != total {
				t.Error("P3.12:", whole, size, all, total)
			}
		}
	}
}

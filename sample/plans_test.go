package sample_test

import (
	"math"
	"math/big"
	"math/bits"
	"math/rand/v2"
	"testing"

	"calx/api"
	"calx/sample"
)

func TestPassErrors(t *testing.T) {
	for _, x := range []struct {
		name   string
		p      api.Trial
		chance api.Ratio
		want   api.Errno
	}{
		{"example", api.Trial{Sample: 2}, ratio(3, 10), api.OK},
		{"no sample", api.Trial{}, ratio(1, 1), api.OK},
		{"all", api.Trial{Sample: 5, Accept: 2}, ratio(1, 1), api.OK},
		{"all, and fewer accepted", api.Trial{Sample: 5, Accept: 1}, ratio(0, 1), api.OK},
		{"as many accepted as taken", api.Trial{Sample: 2, Accept: 2}, ratio(1, 1), api.OK},
		{"more accepted than taken", api.Trial{Sample: 2, Accept: 3}, ratio(0, 0), api.ErrArg},
		{"a sample too great", api.Trial{Sample: 6, Accept: 0}, ratio(0, 0), api.ErrArg},
		{"a sample below 0", api.Trial{Sample: -1, Accept: 0}, ratio(0, 0), api.ErrArg},
		{"a sample below 0, and fewer accepted", api.Trial{Sample: -1, Accept: -1}, ratio(0, 0), api.ErrArg},
		{"below 0 accepted", api.Trial{Sample: 2, Accept: -1}, ratio(0, 0), api.ErrArg},
		{"the greatest numbers", api.Trial{Sample: math.MaxInt, Accept: math.MaxInt}, ratio(0, 0), api.ErrArg},
	} {
		if chance, e := sample.Pass(5, 2, x.p); chance != x.chance || e != x.want {
			t.Error("P3.8: Pass:", x.name, chance, e)
		}
	}
	for _, x := range noBarrows() {
		if chance, e := sample.Pass(x[0], x[1], api.Trial{}); chance != (api.Ratio{}) || e != api.ErrArg {
			t.Error("P3.8: Pass:", x, chance, e)
		}
		if chance, e := sample.PassTwice(x[0], x[1], api.Double{Refuse: 1}); chance != (api.Ratio{}) || e != api.ErrArg {
			t.Error("P3.8: PassTwice:", x, chance, e)
		}
		if p, e := sample.Smallest(x[0], 0, x[1], ratio(0, 1), ratio(1, 1)); p != (api.Trial{}) || e != api.ErrArg {
			t.Error("P3.9:", x, p, e)
		}
	}
}

func TestPassTwiceErrors(t *testing.T) {
	for _, x := range []struct {
		name         string
		barrows, bad int
		d            api.Double
		want         api.Errno
	}{
		{"a plan", 8, 3, api.Double{First: 3, Accept: 0, Refuse: 2, Second: 4, Together: 2}, api.OK},
		{"no samples", 8, 3, api.Double{Refuse: 1}, api.OK},
		{"all in the first", 8, 3, api.Double{First: 8, Refuse: 9, Together: 8}, api.OK},
		{"all in the second", 8, 3, api.Double{Refuse: 1, Second: 8, Together: 8}, api.OK},
		{"as many barrows as can be", api.MaxTwice, 3, api.Double{First: 18, Accept: 1, Refuse: 19, Second: 18, Together: 36}, api.OK},
		{"a barrow too many", api.MaxTwice + 1, 3, api.Double{First: 3, Refuse: 2, Second: 4, Together: 2}, api.ErrArg},
		{"as many barrows as for one sample", api.MaxBarrows, 3, api.Double{First: 3, Refuse: 2, Second: 4, Together: 2}, api.ErrArg},
		{"First below 0", 8, 3, api.Double{First: -1, Refuse: 1, Second: 4}, api.ErrArg},
		{"Second below 0", 8, 3, api.Double{First: 3, Refuse: 2, Second: -1, Together: 1}, api.ErrArg},
		{"both together the most", 8, 3, api.Double{First: 3, Refuse: 2, Second: 5, Together: 2}, api.OK},
		{"both together too many", 8, 3, api.Double{First: 3, Refuse: 2, Second: 6, Together: 2}, api.ErrArg},
		{"First too great", 8, 3, api.Double{First: 9, Refuse: 2, Together: 2}, api.ErrArg},
		{"both together out of range", 8, 3, api.Double{First: math.MaxInt, Refuse: 2, Second: math.MaxInt, Together: 2}, api.ErrArg},
		{"Second the greatest", 8, 3, api.Double{First: 3, Refuse: 2, Second: math.MaxInt, Together: 2}, api.ErrArg},
		{"Accept below 0", 8, 3, api.Double{First: 3, Accept: -1, Refuse: 2, Second: 4, Together: 2}, api.ErrArg},
		{"Accept below 0, and Refuse 0", 8, 3, api.Double{First: 3, Accept: -1, Refuse: 0, Second: 4, Together: 2}, api.ErrArg},
		{"Accept as Refuse", 8, 3, api.Double{First: 3, Accept: 2, Refuse: 2, Second: 4, Together: 2}, api.ErrArg},
		{"Accept one less than Refuse", 8, 3, api.Double{First: 3, Accept: 1, Refuse: 2, Second: 4, Together: 2}, api.OK},
		{"Refuse the greatest", 8, 3, api.Double{First: 3, Accept: 3, Refuse: 4, Second: 4, Together: 3}, api.OK},
		{"Refuse too great", 8, 3, api.Double{First: 3, Accept: 3, Refuse: 5, Second: 4, Together: 3}, api.ErrArg},
		{"Refuse greatest of all", 8, 3, api.Double{First: 3, Accept: 3, Refuse: math.MaxInt, Second: 4, Together: 3}, api.ErrArg},
		{"Refuse least of all", 8, 3, api.Double{First: 3, Accept: math.MinInt, Refuse: math.MinInt, Second: 4, Together: 3}, api.ErrArg},
		{"Together as Accept", 8, 3, api.Double{First: 3, Accept: 1, Refuse: 3, Second: 4, Together: 1}, api.OK},
		{"Together less than Accept", 8, 3, api.Double{First: 3, Accept: 1, Refuse: 3, Second: 4, Together: 0}, api.ErrArg},
		{"Together the most", 8, 3, api.Double{First: 3, Accept: 1, Refuse: 3, Second: 4, Together: 7}, api.OK},
		{"Together too great", 8, 3, api.Double{First: 3, Accept: 1, Refuse: 3, Second: 4, Together: 8}, api.ErrArg},
		{"Together less than Refuse", 8, 3, api.Double{First: 3, Accept: 0, Refuse: 3, Second: 4, Together: 1}, api.OK},
	} {
		chance, e := sample.PassTwice(x.barrows, x.bad, x.d)
		if e != x.want || e != api.OK && chance != (api.Ratio{}) {
			t.Error("P3.8: PassTwice:", x.name, chance, e)
		}
	}
}

// TestPass: chances are counted out, and fall with the bad barrows, and rise with Accept.
func TestPass(t *testing.T) {
	for barrows := 1; barrows <= 7; barrows++ {
		for taken := range barrows + 1 {
			for accept := range taken + 1 {
				p, last := api.Trial{Sample: taken, Accept: accept}, of(1, 1)
				for bad := range barrows + 1 {
					chance, e := sample.Pass(barrows, bad, p)
					if e != api.OK || chance != lowest(between(barrows, bad, taken, 0, accept)) {
						t.Error("P3.8:", barrows, bad, p, chance, e)
					}
					if exact(chance).Cmp(last) > 0 {
						t.Error("P3.17: with more bad barrows:", barrows, bad, p, chance)
					}
					last = exact(chance)
					if accept == 0 {
						continue
					}
					if less, _ := sample.Pass(barrows, bad, api.Trial{Sample: taken, Accept: accept - 1}); exact(less).Cmp(exact(chance)) > 0 {
						t.Error("P3.17: with a greater Accept:", barrows, bad, p, chance, less)
					}
				}
			}
		}
	}
}

// TestGreatPass: with the most barrows all chances are still exact.
func TestGreatPass(t *testing.T) {
	for _, bad := range []int{0, 1, 10, 25, 49, 50} {
		for taken := range api.MaxBarrows + 1 {
			for _, accept := range []int{0, taken / 3, taken / 2, taken} {
				p := api.Trial{Sample: taken, Accept: accept}
				if chance, e := sample.Pass(api.MaxBarrows, bad, p); chance != lowest(exactly(api.MaxBarrows, bad, taken, 0, accept)) || e != api.OK {
					t.Error("P3.8:", bad, p, chance, e)
				}
			}
		}
	}
}

// doubles is all plans with two samples for so many barrows.
func doubles(barrows int) []api.Double {
	var l []api.Double
	for first := 0; first <= barrows; first++ {
		for second := 0; first+second <= barrows; second++ {
			for refuse := 1; refuse <= first+1; refuse++ {
				for accept := 0; accept < refuse; accept++ {
					for together := accept; together <= first+second; together++ {
						l = append(l, api.Double{First: first, Accept: accept, Refuse: refuse, Second: second, Together: together})
					}
				}
			}
		}
	}
	return l
}

// pairs counts out the pairs of samples of so many barrows, of which the first ones are bad, by how many are bad in the first and in the second sample.
func pairs(barrows, bad, first, second int) map[[2]int]int {
	ways := map[[2]int]int{}
	for a := range uint(1) << barrows {
		if bits.OnesCount(a) != first {
			continue
		}
		for b := range uint(1) << barrows {
			if a&b == 0 && bits.OnesCount(b) == second {
				ways[[2]int{bits.OnesCount(a & (1<<bad - 1)), bits.OnesCount(b & (1<<bad - 1))}]++
			}
		}
	}
	return ways
}

// accepts is whether a plan accepts what has so many bad barrows in both samples.
func accepts(d api.Double, one, other int) bool {
	return one <= d.Accept || one < d.Refuse && one+other <= d.Together
}

// TestPassTwice: chances of all plans with two samples are counted out, and fall with the bad barrows.
func TestPassTwice(t *testing.T) {
	for barrows := 1; barrows <= 5; barrows++ {
		for _, d := range doubles(barrows) {
			last := of(1, 1)
			for bad := range barrows + 1 {
				part, all := 0, 0
				for found, ways := range pairs(barrows, bad, d.First, d.Second) {
					all += ways
					if accepts(d, found[0], found[1]) {
						part += ways
					}
				}
				chance, e := sample.PassTwice(barrows, bad, d)
				if e != api.OK || chance != lowest(of(part, all)) {
					t.Error("P3.8:", barrows, bad, d, chance, e, part, all)
				}
				if exact(chance).Cmp(last) > 0 {
					t.Error("P3.17: with more bad barrows:", barrows, bad, d, chance)
				}
				last = exact(chance)
				if d.Second == 0 && d.Together == d.Accept {
					if once, e := sample.Pass(barrows, bad, api.Trial{Sample: d.First, Accept: d.Accept}); once != chance || e != api.OK {
						t.Error("P3.17: with a second sample of 0 barrows:", barrows, bad, d, chance, once, e)
					}
				}
			}
		}
	}
}

// TestGreatPassTwice: with the most barrows all chances are still exact.
func TestGreatPassTwice(t *testing.T) {
	r := rand.New(rand.NewPCG(8, 1))
	l := []api.Double{
		{First: 12, Accept: 3, Refuse: 8, Second: 12, Together: 9}, {First: 12, Accept: 0, Refuse: 13, Second: 12, Together: 24},
		{First: 18, Accept: 0, Refuse: 19, Second: 18, Together: 5}, {First: 36, Accept: 5, Refuse: 20, Together: 18},
	}
	for range 200 {
		d := api.Double{First: r.IntN(api.MaxTwice + 1)}
		d.Second = r.IntN(api.MaxTwice - d.First + 1)
		d.Refuse = 1 + r.IntN(d.First+1)
		d.Accept = r.IntN(d.Refuse)
		d.Together = d.Accept + r.IntN(d.First+d.Second-d.Accept+1)
		l = append(l, d)
	}
	for _, d := range l {
		for _, bad := range []int{0, 1, 5, 12, 18, 30, 36} {
			want := new(big.Rat)
			for one := range min(bad, d.First) + 1 {
				first := exactly(api.MaxTwice, bad, d.First, one, one)
				for other := range min(bad-one, d.Second) + 1 {
					if first.Sign() > 0 && accepts(d, one, other) {
						both := exactly(api.MaxTwice-d.First, bad-one, d.Second, other, other)
						want.Add(want, both.Mul(both, first))
					}
				}
			}
			if chance, e := sample.PassTwice(api.MaxTwice, bad, d); chance != lowest(want) || e != api.OK {
				t.Error("P3.8:", d, bad, chance, e, want)
			}
		}
	}
}

func TestSmallestErrors(t *testing.T) {
	if p, e := sample.Smallest(5, 0, 3, ratio(1, 1), ratio(1, 10)); p != (api.Trial{Sample: 2}) || e != api.OK {
		t.Error("P3.9:", p, e)
	}
	for _, x := range []struct {
		barrows, good, bad int
		want               api.Errno
	}{
		{5, 0, 1, api.OK}, {5, 4, 5, api.OK}, {5, 3, 3, api.ErrArg}, {5, 4, 3, api.ErrArg}, {5, -1, 3, api.ErrArg}, {5, 2, 6, api.ErrArg}, {5, 5, 6, api.ErrArg},
		{5, -2, -1, api.ErrArg}, {5, 0, 0, api.ErrArg}, {0, 0, 1, api.ErrArg}, {51, 0, 1, api.ErrArg}, {50, 0, 1, api.OK}, {5, math.MinInt, math.MinInt, api.ErrArg}, {5, math.MinInt, 3, api.ErrArg}, {5, 0, math.MaxInt, api.ErrArg},
	} {
		p, e := sample.Smallest(x.barrows, x.good, x.bad, ratio(1, 2), ratio(1, 2))
		if e != x.want || e != api.OK && p != (api.Trial{}) {
			t.Error("P3.9:", x, p, e)
		}
	}
}

// TestSmallest: the plan is found among all plans in order. (There always is one: to take all barrows.)
func TestSmallest(t *testing.T) {
	for barrows := 1; barrows <= 6; barrows++ {
		for bad := 1; bad <= barrows; bad++ {
			for good := range bad {
				for _, accept := range levels() {
					for _, refuse := range levels() {
						want := smallestOf(barrows, good, bad, accept, refuse)
						if p, e := sample.Smallest(barrows, good, bad, accept, refuse); p != want || e != api.OK {
							t.Error("P3.9:", barrows, good, bad, accept, refuse, p, e, want)
						}
					}
				}
			}
		}
	}
}

// smallestOf is the first of all plans that tells batches apart.
func smallestOf(barrows, good, bad int, accept, refuse api.Ratio) api.Trial {
	for taken := 0; ; taken++ {
		for most := range taken + 1 {
			if tells(barrows, good, bad, api.Trial{Sample: taken, Accept: most}, accept, refuse) {
				return api.Trial{Sample: taken, Accept: most}
			}
		}
	}
}

// tells is whether a plan tells a good batch from a bad one.
func tells(barrows, good, bad int, p api.Trial, accept, refuse api.Ratio) bool {
	return exactly(barrows, good, p.Sample, 0, p.Accept).Cmp(exact(accept)) >= 0 && exactly(barrows, bad, p.Sample, 0, p.Accept).Cmp(exact(refuse)) <= 0
}

func TestGreatSmallest(t *testing.T) {
	for _, x := range []struct {
		good, bad      int
		accept, refuse api.Ratio
	}{
		{0, 1, ratio(1, 1), ratio(0, 1)}, {2, 10, ratio(9, 10), ratio(1, 10)}, {24, 25, ratio(9999, 10000), ratio(1, 10000)}, {24, 26, ratio(3, 5), ratio(2, 5)},
		{10, 20, ratio(19, 20), ratio(1, 20)}, {49, 50, ratio(1, 2), ratio(1, 2)}, {5, 40, ratio(1, 1), ratio(0, 1)}, {7, 9, ratio(0, 1), ratio(1, 1)},
	} {
		p, e := sample.Smallest(api.MaxBarrows, x.good, x.bad, x.accept, x.refuse)
		if e != api.OK || p != smallestOf(api.MaxBarrows, x.good, x.bad, x.accept, x.refuse) {
			t.Error("P3.9:", x, p, e)
		}
		for most := range p.Sample {
			if tells(api.MaxBarrows, x.good, x.bad, api.Trial{Sample: p.Sample - 1, Accept: most}, x.accept, x.refuse) {
				t.Error("P3.17: one barrow less does, too:", x, p, most)
			}
		}
	}
}

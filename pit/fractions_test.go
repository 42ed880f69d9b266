package pit_test

import (
	"math"
	"math/big"
	"math/rand/v2"
	"testing"

	"calx/api"
	"calx/pit"
)

const (
	top    = 1 << 36 // the greatest numerator
	factor = 1 << 14 // the greatest factor
)

// noFractions is fractions that are not valid.
func noFractions() []api.Ratio {
	return []api.Ratio{
		{}, ratio(1, 0), ratio(0, 2), ratio(2, 2), ratio(2, 4), ratio(6, 4), ratio(-1, 2), ratio(1, -2), ratio(-1, -2), ratio(0, -1), ratio(-1, 1),
		ratio(top+1, 1), ratio(1, api.MaxDenom+1), ratio(top, 2), ratio(top+2, 3), ratio(0, api.MaxDenom),
		ratio(math.MaxInt, 1), ratio(math.MinInt, 1), ratio(1, math.MaxInt), ratio(1, math.MinInt), ratio(math.MinInt, math.MinInt), ratio(math.MinInt, -1),
	}
}

// someFractions is fractions at the ends of what is valid.
func someFractions() []api.Ratio {
	return []api.Ratio{
		ratio(0, 1), ratio(1, 1), ratio(1, 2), ratio(3, 2), ratio(top, 1), ratio(top-1, 1), ratio(top-1, 2), ratio(1, api.MaxDenom), ratio(1, api.MaxDenom-1),
		ratio(api.MaxDenom-1, api.MaxDenom), ratio(top-1, api.MaxDenom), ratio(top, api.MaxDenom-1), ratio(1, api.MaxFine), ratio(1, 3), ratio(1<<35, 3), ratio(1<<35, 1),
	}
}

func TestAddErrors(t *testing.T) {
	good := ratio(1, 2)
	for _, r := range noFractions() {
		for _, x := range [][2]api.Ratio{{r, good}, {good, r}, {r, r}, {r, ratio(top, 1)}, {ratio(top, 1), r}} {
			if s, e := pit.Add(x[0], x[1]); s != (api.Ratio{}) || e != api.ErrArg {
				t.Error("P4.1: Add:", x, s, e)
			}
			if n, e := pit.Compare(x[0], x[1]); n != 0 || e != api.ErrArg {
				t.Error("P4.1: Compare:", x, n, e)
			}
		}
		if s, e := pit.Times(r, 1, 1); s != (api.Ratio{}) || e != api.ErrArg {
			t.Error("P4.1: Times:", r, s, e)
		}
	}
}

func TestTimesErrors(t *testing.T) {
	for _, x := range []struct {
		n, m int
		want api.Errno
	}{
		{0, 1, api.OK}, {factor, factor, api.OK}, {0, factor, api.OK}, {factor, 1, api.OK},
		{-1, 1, api.ErrArg}, {factor + 1, 1, api.ErrArg}, {1, 0, api.ErrArg}, {0, 0, api.ErrArg}, {1, -1, api.ErrArg}, {-1, -1, api.ErrArg}, {1, factor + 1, api.ErrArg},
		{math.MinInt, 1, api.ErrArg}, {math.MaxInt, 1, api.ErrArg}, {1, math.MaxInt, api.ErrArg}, {1, math.MinInt, api.ErrArg},
	} {
		if _, e := pit.Times(ratio(3, 2), x.n, x.m); e != x.want {
			t.Error("P4.1:", x, e)
		}
		if s, e := pit.Times(ratio(top, 1), x.n, x.m); x.want == api.ErrArg && (s != (api.Ratio{}) || e != api.ErrArg) {
			t.Error("P4.1: ahead of ErrRange:", x, s, e)
		}
	}
}

// agree holds a fraction that was returned against an exact one.
func agree(t *testing.T, name string, args any, got api.Ratio, e api.Errno, want *big.Rat) {
	t.Helper()
	if !isTold(want) {
		if got != (api.Ratio{}) || e != api.ErrRange {
			t.Error("P4.1:", name, args, "is out of range:", got, e)
		}
		return
	}
	if got != lowest(want) || e != api.OK {
		t.Error("P4.1:", name, args, got, e, want)
	}
}

// checkFractions holds all that is done with two fractions against exact numbers.
func checkFractions(t *testing.T, a, b api.Ratio) {
	t.Helper()
	s, e := pit.Add(a, b)
	agree(t, "Add", []api.Ratio{a, b}, s, e, new(big.Rat).Add(exact(a), exact(b)))
	if n, e := pit.Compare(a, b); n != exact(a).Cmp(exact(b)) || e != api.OK {
		t.Error("P4.1: Compare:", a, b, n, e)
	}
}

func checkTimes(t *testing.T, a api.Ratio, n, m int) {
	t.Helper()
	s, e := pit.Times(a, n, m)
	agree(t, "Times", []any{a, n, m}, s, e, new(big.Rat).Mul(exact(a), of(n, m)))
}

func TestEndsOfFractions(t *testing.T) {
	for _, a := range someFractions() {
		for _, b := range someFractions() {
			checkFractions(t, a, b)
		}
		for _, n := range []int{0, 1, 2, 3, factor - 1, factor} {
			for _, m := range []int{1, 2, 3, factor - 1, factor} {
				checkTimes(t, a, n, m)
			}
		}
	}
}

func TestFractionsByHand(t *testing.T) {
	for _, x := range []struct {
		a, b, want api.Ratio
		e          api.Errno
	}{
		{ratio(1, 2), ratio(1, 3), ratio(5, 6), api.OK},
		{ratio(1, 2), ratio(1, 2), ratio(1, 1), api.OK},
		{ratio(1, 6), ratio(1, 3), ratio(1, 2), api.OK},
		{ratio(0, 1), ratio(0, 1), ratio(0, 1), api.OK},
		{ratio(top-1, 1), ratio(1, 1), ratio(top, 1), api.OK},
		{ratio(top, 1), ratio(1, 1), api.Ratio{}, api.ErrRange},
		{ratio(top-1, 2), ratio(1, 2), ratio(top/2, 1), api.OK},
		{ratio(1, 4096), ratio(1, 4095), ratio(8191, 4095*4096), api.OK},
		{ratio(1, 4097), ratio(1, 4096), api.Ratio{}, api.ErrRange},
		{ratio(1, api.MaxDenom), ratio(1, api.MaxDenom), ratio(1, api.MaxDenom/2), api.OK},
	} {
		if s, e := pit.Add(x.a, x.b); s != x.want || e != x.e {
			t.Error("P4.1: Add:", x, s, e)
		}
	}
	for _, x := range []struct {
		a    api.Ratio
		n, m int
		want api.Ratio
		e    api.Errno
	}{
		{ratio(5, 6), 3, 10, ratio(1, 4), api.OK},
		{ratio(5, 6), 0, 10, ratio(0, 1), api.OK},
		{ratio(0, 1), 7, factor, ratio(0, 1), api.OK},
		{ratio(top, 1), factor, factor, ratio(top, 1), api.OK},
		{ratio(1, api.MaxDenom), factor, factor, ratio(1, api.MaxDenom), api.OK},
		{ratio(1<<22, 1), factor, 1, ratio(top, 1), api.OK},
		{ratio(1<<22+1, 1), factor, 1, api.Ratio{}, api.ErrRange},
		{ratio(1, 1<<10), 1, factor, ratio(1, api.MaxDenom), api.OK},
		{ratio(1, 1<<10+1), 1, factor, api.Ratio{}, api.ErrRange},
	} {
		if s, e := pit.Times(x.a, x.n, x.m); s != x.want || e != x.e {
			t.Error("P4.1: Times:", x, s, e)
		}
	}
}

// chanceFraction is a valid fraction; one in four has small numbers.
func chanceFraction(r *rand.Rand) api.Ratio {
	num, den := r.IntN(top+1), 1+r.IntN(api.MaxDenom)
	if r.IntN(4) == 0 {
		num, den = r.IntN(12), 1+r.IntN(12)
	}
	return lowest(of(num>>r.IntN(30), 1+den>>r.IntN(24)))
}

func TestFractions(t *testing.T) {
	r := rand.New(rand.NewPCG(1, 1))
	for range 20000 {
		a, b := chanceFraction(r), chanceFraction(r)
		if !isTold(exact(a)) || !isTold(exact(b)) {
			continue
		}
		checkFractions(t, a, b)
		checkTimes(t, a, r.IntN(factor+1)>>r.IntN(14), 1+r.IntN(factor)>>r.IntN(14))
		if t.Failed() {
			return
		}
	}
}

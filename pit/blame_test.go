package pit_test

import (
	"math"
	"math/big"
	"math/rand/v2"
	"slices"
	"testing"

	"calx/api"
	"calx/pit"
)

func probe(barrow, lo, hi int) api.Probe { return api.Probe{Barrow: barrow, Mille: span(lo, hi)} }

func blame(id int, lo, hi api.Ratio) api.Blame { return api.Blame{Pour: id, Lo: lo, Hi: hi} }

func TestExampleBlame(t *testing.T) {
	p := example()
	all := blame(0, ratio(0, 1), ratio(1000, 1))
	whole := func(id int) api.Blame { return blame(id, all.Lo, all.Hi) }
	for _, x := range []struct {
		name string
		l    []api.Probe
		want []api.Blame
	}{
		{"of the chapter", []api.Probe{probe(12, 100, 120), probe(13, 50, 90)}, []api.Blame{blame(1, ratio(200, 1), ratio(216, 1)), blame(2, ratio(200, 1), ratio(216, 1))}},
		{"nothing was found", nil, []api.Blame{whole(1), whole(2), whole(3)}},
		{"anything", []api.Probe{probe(11, 0, 1000), probe(12, 0, 1000)}, []api.Blame{whole(1), whole(2), whole(3)}},
		{"nothing bad", []api.Probe{probe(11, 0, 0)}, []api.Blame{blame(1, ratio(0, 1), ratio(0, 1)), whole(2), whole(3)}},
		{"nothing bad in all", []api.Probe{probe(11, 0, 0), probe(13, 0, 0)}, []api.Blame{blame(1, ratio(0, 1), ratio(0, 1)), blame(2, ratio(0, 1), ratio(0, 1)), blame(3, ratio(0, 1), ratio(0, 1))}},
		{"all bad", []api.Probe{probe(11, 1000, 1000)}, []api.Blame{blame(1, ratio(1000, 1), ratio(1000, 1))}},
		{"half", []api.Probe{probe(12, 500, 500)}, []api.Blame{blame(1, ratio(1000, 1), ratio(1000, 1)), blame(2, ratio(1000, 1), ratio(1000, 1))}},
		{"more than half", []api.Probe{probe(12, 501, 501)}, nil},
		{"more than any is", []api.Probe{probe(12, 501, 1000)}, nil},
		{"up to half and more", []api.Probe{probe(12, 500, 501)}, []api.Blame{blame(1, ratio(1000, 1), ratio(1000, 1)), blame(2, ratio(1000, 1), ratio(1000, 1))}},
		{"a fraction", []api.Probe{probe(13, 1, 2)}, []api.Blame{blame(1, ratio(12, 5), ratio(24, 5)), blame(2, ratio(12, 5), ratio(24, 5)), blame(3, ratio(6, 1), ratio(12, 1))}},
		{"one was just in none", []api.Probe{probe(11, 0, 5), probe(13, 1, 1)}, []api.Blame{blame(1, ratio(12, 5), ratio(12, 5)), blame(2, ratio(12, 5), ratio(12, 5)), blame(3, ratio(6, 1), ratio(6, 1))}},
		{"two that clash", []api.Probe{probe(12, 10, 20), probe(13, 20, 30)}, nil},
		{"two that touch", []api.Probe{probe(12, 10, 24), probe(13, 20, 30)}, []api.Blame{blame(1, ratio(48, 1), ratio(48, 1)), blame(2, ratio(48, 1), ratio(48, 1))}},
	} {
		l, e := pit.Culprits(p, x.l)
		if e != api.OK || !slices.Equal(l, x.want) {
			t.Error("P4.7:", x.name, l, e)
		}
	}
	for _, x := range []struct {
		l       []api.Probe
		pour    int
		index   int
		cleared bool
	}{
		{[]api.Probe{probe(12, 100, 120), probe(13, 50, 90)}, 3, 0, true},
		{[]api.Probe{probe(13, 50, 90), probe(12, 100, 120)}, 3, 1, true},
		{[]api.Probe{probe(12, 100, 120), probe(13, 50, 90)}, 1, 0, false},
		{[]api.Probe{probe(11, 0, 9), probe(12, 10, 20), probe(13, 20, 30)}, 2, 2, true},
		{[]api.Probe{probe(13, 20, 30), probe(11, 0, 9), probe(12, 10, 20)}, 2, 2, true},
		{[]api.Probe{probe(13, 20, 30), probe(12, 10, 20), probe(11, 0, 9)}, 2, 1, true},
		{[]api.Probe{probe(13, 20, 30), probe(12, 10, 20), probe(11, 0, 9)}, 1, 1, true},
		{nil, 3, 0, false},
	} {
		if n, ok, e := pit.Clears(p, x.l, x.pour); n != x.index || ok != x.cleared || e != api.OK {
			t.Error("P4.7: Clears:", x, n, ok, e)
		}
	}
	for _, x := range []struct {
		pour  int
		mille api.Ratio
		want  api.Errno
	}{
		{1, ratio(200, 1), api.OK}, {1, ratio(216, 1), api.OK}, {2, ratio(401, 2), api.OK}, {1, ratio(199, 1), api.ErrProof}, {1, ratio(217, 1), api.ErrProof},
		{1, ratio(216*16384+1, 16384), api.ErrProof}, {1, ratio(200*16384-1, 16384), api.ErrProof}, {3, ratio(200, 1), api.ErrProof}, {3, ratio(0, 1), api.ErrProof},
		{1, ratio(0, 1), api.ErrProof}, {1, ratio(1000, 1), api.ErrProof},
	} {
		if e := pit.CheckBlame(p, []api.Probe{probe(12, 100, 120), probe(13, 50, 90)}, x.pour, x.mille); e != x.want {
			t.Error("P4.7: CheckBlame:", x, e)
		}
	}
}

func TestBlameErrors(t *testing.T) {
	p := example()
	full := make([]api.Probe, api.MaxProbes+1)
	good := probe(12, 0, 1000)
	type test struct {
		name string
		l    []api.Probe
		want api.Errno
	}
	tests := []test{
		{"one", []api.Probe{good}, api.OK},
		{"too many", full, api.ErrLimit},
		{"just not too many", full[1:], api.ErrNone},
		{"no barrow", []api.Probe{probe(14, 0, 0)}, api.ErrNone},
		{"a pour is no barrow", []api.Probe{probe(1, 0, 0)}, api.ErrNone},
		{"no barrow, nor a span", []api.Probe{probe(14, 1, 0)}, api.ErrNone},
		{"no span, and twice", []api.Probe{good, probe(12, 1, 0)}, api.ErrArg},
		{"twice", []api.Probe{good, good}, api.ErrTwice},
		{"twice, with another one between", []api.Probe{good, probe(11, 5, 5), good}, api.ErrTwice},
		{"twice ahead of no barrow", []api.Probe{good, good, {}}, api.ErrTwice},
		{"no barrow ahead of twice", []api.Probe{good, {}, good}, api.ErrNone},
		{"no span ahead of no barrow", []api.Probe{probe(12, 1, 0), {}}, api.ErrArg},
	}
	for _, s := range noMilles() {
		tests = append(tests, test{"no span", []api.Probe{{Barrow: 12, Mille: s}}, api.ErrArg}, test{"no span behind a good one", []api.Probe{good, {Barrow: 11, Mille: s}}, api.ErrArg})
	}
	for _, x := range tests {
		// What is wrong with probes comes ahead of what is wrong with the pour, or the grade.
		for _, id := range []int{1, 4, 11, math.MinInt} {
			for _, mille := range []api.Ratio{ratio(0, 1), {}} {
				want := x.want
				if want == api.OK && id != 1 {
					want = api.ErrNone
				}
				n, ok, e := pit.Clears(p, x.l, id)
				if n != 0 || ok || e != want {
					t.Error("P4.7: Clears:", x.name, x.l, id, n, ok, e)
				}
				if want == api.OK && mille == (api.Ratio{}) {
					want = api.ErrArg
				}
				if e := pit.CheckBlame(p, x.l, id, mille); e != want {
					t.Error("P4.7: CheckBlame:", x.name, x.l, id, mille, e)
				}
			}
		}
		if l, e := pit.Culprits(p, x.l); e != x.want || e != api.OK && len(l) != 0 {
			t.Error("P4.7: Culprits:", x.name, x.l, l, e)
		}
	}
	clash := []api.Probe{probe(12, 501, 502)}
	for _, mille := range append(noFractions(), ratio(1001, 1), ratio(1000*16384+1, 16384), ratio(top, 1), ratio(1<<35, 3)) {
		if e := pit.CheckBlame(p, clash, 1, mille); e != api.ErrArg {
			t.Error("P4.7: CheckBlame:", mille, e)
		}
		if e := pit.CheckBlame(p, clash, 4, mille); e != api.ErrNone {
			t.Error("P4.7: CheckBlame:", mille, e)
		}
	}
	for _, mille := range []api.Ratio{ratio(1000, 1), ratio(0, 1), ratio(1, api.MaxDenom), ratio(1000*api.MaxDenom-1, api.MaxDenom), ratio(999*(api.MaxDenom-1)+1, api.MaxDenom-1)} {
		if e := pit.CheckBlame(p, nil, 1, mille); e != api.OK {
			t.Error("P4.7: CheckBlame:", mille, e)
		}
		if e := pit.CheckBlame(p, clash, 1, mille); e != api.ErrProof {
			t.Error("P4.7: CheckBlame:", mille, e)
		}
	}
}

// TestManyProbes: as many probes as can be, of which the last one clears.
func TestManyProbes(t *testing.T) {
	p := pits([]int{1000}, pour(1, 0, 0, 1000))
	var l []api.Probe
	for i := range api.MaxProbes {
		p = more(p, take(10+i, 0, 0, 2))
		l = append(l, probe(10+i, i, 500))
	}
	if c, e := pit.Culprits(p, l); e != api.OK || !slices.Equal(c, []api.Blame{blame(1, ratio(19, 1), ratio(500, 1))}) {
		t.Error("P4.7:", c, e)
	}
	l[19] = probe(29, 501, 501)
	if n, ok, e := pit.Clears(p, l, 1); n != 19 || !ok || e != api.OK {
		t.Error("P4.7:", n, ok, e)
	}
	if _, e := pit.Culprits(p, append(l, l[0])); e != api.ErrLimit {
		t.Error("P4.7: too many:", e)
	}
}

// explained is whether a pour with a grade alone explains probes.
func explained(m model, l []api.Probe, id int, x *big.Rat) bool {
	if x.Sign() < 0 || x.Cmp(of(1000, 1)) > 0 {
		return false
	}
	for _, y := range l {
		i := slices.IndexFunc(m.barrows, func(b filled) bool { return b.stir.ID == y.Barrow })
		found := new(big.Rat).Mul(m.barrows[i].share(id), x)
		if found.Cmp(of(y.Mille.Lo, 1)) < 0 || found.Cmp(of(y.Mille.Hi, 1)) > 0 {
			return false
		}
	}
	return true
}

// blameOf is the least and the greatest grade with which a pour alone explains probes; if there is one, one of these is at an end of what can be, or of what a probe leaves.
func blameOf(m model, l []api.Probe, id int) (lo, hi *big.Rat) {
	ends := []*big.Rat{of(0, 1), of(1000, 1)}
	for _, y := range l {
		i := slices.IndexFunc(m.barrows, func(b filled) bool { return b.stir.ID == y.Barrow })
		if share := m.barrows[i].share(id); share.Sign() > 0 {
			ends = append(ends, new(big.Rat).Quo(of(y.Mille.Lo, 1), share), new(big.Rat).Quo(of(y.Mille.Hi, 1), share))
		}
	}
	for _, x := range ends {
		if explained(m, l, id, x) {
			if lo == nil || x.Cmp(lo) < 0 {
				lo = x
			}
			if hi == nil || x.Cmp(hi) > 0 {
				hi = x
			}
		}
	}
	return lo, hi
}

// chanceProbes is probes of some barrows: in most cases, one pour makes them as bad as they are found.
func chanceProbes(r *rand.Rand, m model) []api.Probe {
	if len(m.barrows) == 0 {
		return nil
	}
	bad, grade := m.pours[r.IntN(len(m.pours))].ID, r.IntN(1001)
	var l []api.Probe
	for _, i := range r.Perm(len(m.barrows))[:r.IntN(min(len(m.barrows), 8)+1)] {
		b := m.barrows[i]
		x, _ := new(big.Rat).Mul(b.share(bad), of(grade, 1)).Float64()
		lo, hi := int(math.Floor(x))-r.IntN(10), int(math.Ceil(x))+r.IntN(10)
		if r.IntN(12) == 0 {
			lo, hi = hi, hi+r.IntN(100)
		}
		l = append(l, probe(b.stir.ID, min(max(lo, 0), 1000), min(hi, 1000)))
	}
	return l
}

// checkGrade holds CheckBlame against what a pour with a grade explains.
func checkGrade(t *testing.T, p api.Pits, m model, l []api.Probe, id int, x *big.Rat) {
	t.Helper()
	if !isTold(x) || x.Cmp(of(1000, 1)) > 0 {
		return
	}
	want := api.ErrProof
	if explained(m, l, id, x) {
		want = api.OK
	}
	if e := pit.CheckBlame(p, l, id, lowest(x)); e != want {
		t.Error("P4.13: CheckBlame:", l, id, x, e, want)
	}
}

func TestBlame(t *testing.T) {
	named, cleared, fractions := 0, 0, 0
	many(t, 7, 500, func(t *testing.T, r *rand.Rand, p api.Pits, m model) {
		l := chanceProbes(r, m)
		var want []api.Blame
		for _, x := range m.pours {
			lo, hi := blameOf(m, l, x.ID)
			first := slices.IndexFunc(l, func(y api.Probe) bool {
				end, _ := blameOf(m, l[:slices.Index(l, y)+1], x.ID)
				return end == nil
			})
			n, ok, e := pit.Clears(p, l, x.ID)
			if n != max(first, 0) || ok != (first >= 0) || e != api.OK {
				t.Fatal("P4.7: Clears:", l, x.ID, n, ok, e, first)
			}
			some := []*big.Rat{of(r.IntN(1001), 1), of(0, 1), of(1000, 1)}
			if lo == nil {
				cleared++
			} else {
				named++
				b := blame(x.ID, lowest(lo), lowest(hi))
				if b.Lo.Den > 1 {
					fractions++
				}
				want = append(want, b)
				middle := new(big.Rat).Add(lo, hi)
				tiny := of(1, 997)
				some = append(some, lo, hi, middle.Mul(middle, of(1, 2)), new(big.Rat).Sub(lo, tiny), new(big.Rat).Add(hi, tiny))
			}
			for _, y := range some {
				checkGrade(t, p, m, l, x.ID, y)
			}
		}
		got, e := pit.Culprits(p, l)
		if e != api.OK || !slices.Equal(got, want) {
			t.Fatal("P4.7: Culprits:", l, got, e, want)
		}
		if len(l) == 0 {
			return
		}
		// Without the last probe, those who are named are named, too, with no fewer grades.
		before, _ := pit.Culprits(p, l[:len(l)-1])
		for _, b := range got {
			i := slices.IndexFunc(before, func(c api.Blame) bool { return b.Pour == c.Pour })
			if i < 0 || exact(before[i].Lo).Cmp(exact(b.Lo)) > 0 || exact(before[i].Hi).Cmp(exact(b.Hi)) < 0 {
				t.Fatal("P4.13: a probe makes a culprit:", l, b, before)
			}
		}
	})
	if named < 300 || cleared < 300 || fractions < 100 {
		t.Error("too few pours:", named, cleared, fractions)
	}
}

// TestGreatBlame: a share with the greatest denominator there is, and ends that are far from each other and from 1000.
func TestGreatBlame(t *testing.T) {
	p := spread(4, 5, 2, 0, 3, 1, take(11, 0, 0, 1), take(12, 0, 1, 1))
	m := right(t, p)
	for _, l := range [][]api.Probe{{probe(11, 0, 1)}, {probe(12, 0, 1)}, {probe(12, 1, 1)}, {probe(12, 2, 9)}, {probe(11, 990, 999), probe(12, 0, 999)}, {probe(12, 0, 0), probe(11, 997, 999)}} {
		var want []api.Blame
		for _, x := range m.pours {
			if lo, hi := blameOf(m, l, x.ID); lo != nil {
				want = append(want, blame(x.ID, lowest(lo), lowest(hi)))
			}
		}
		if got, e := pit.Culprits(p, l); e != api.OK || !slices.Equal(got, want) {
			t.Error("P4.7:", l, got, e, want)
		}
	}
}

package pit_test

import (
	"math"
	"math/big"
	"math/rand/v2"
	"testing"

	"calx/api"
	"calx/pit"
)

// noMilles is spans that are none, or not within 0 to 1000.
func noMilles() []api.Span {
	return []api.Span{span(1, 0), span(-1, 5), span(0, 1001), span(1001, 1001), span(-1, -1), span(math.MinInt, 0), span(0, math.MaxInt), span(math.MaxInt, math.MinInt)}
}

func TestExampleWorth(t *testing.T) {
	p := example()
	for _, x := range []struct {
		barrow      int
		l           []api.Grade
		least, most api.Ratio
	}{
		{13, []api.Grade{{Pour: 1, Mille: span(0, 100)}, {Pour: 2, Mille: span(60, 60)}}, ratio(25, 1), ratio(700, 3)},
		{13, []api.Grade{{Pour: 2, Mille: span(60, 60)}, {Pour: 1, Mille: span(0, 100)}}, ratio(25, 1), ratio(700, 3)},
		{13, nil, ratio(0, 1), ratio(1000, 1)},
		{13, []api.Grade{{Pour: 3, Mille: span(1000, 1000)}}, ratio(500, 3), ratio(1000, 1)},
		{13, []api.Grade{{Pour: 1}, {Pour: 2}, {Pour: 3}}, ratio(0, 1), ratio(0, 1)},
		{11, []api.Grade{{Pour: 1, Mille: span(7, 8)}}, ratio(7, 1), ratio(8, 1)},
		{11, []api.Grade{{Pour: 2, Mille: span(7, 8)}}, ratio(0, 1), ratio(1000, 1)},
		{12, []api.Grade{{Pour: 2, Mille: span(7, 8)}}, ratio(7, 2), ratio(504, 1)},
	} {
		if a, b, e := pit.Worth(p, x.barrow, x.l); a != x.least || b != x.most || e != api.OK {
			t.Error("P4.6:", x, a, b, e)
		}
	}
}

func TestWorthErrors(t *testing.T) {
	p := example()
	full := make([]api.Grade, api.MaxStirs+1)
	good := api.Grade{Pour: 1, Mille: span(0, 1000)}
	type test struct {
		name   string
		barrow int
		l      []api.Grade
		want   api.Errno
	}
	tests := []test{
		{"one", 13, []api.Grade{good}, api.OK},
		{"no barrow", 14, nil, api.ErrNone},
		{"a pour is no barrow", 1, nil, api.ErrNone},
		{"no barrow, ahead of too many grades", 14, full, api.ErrNone},
		{"too many grades", 13, full, api.ErrLimit},
		{"just not too many", 13, full[1:], api.ErrNone},
		{"no pour", 13, []api.Grade{{Pour: 4}}, api.ErrNone},
		{"a barrow is no pour", 13, []api.Grade{{Pour: 13}}, api.ErrNone},
		{"no pour 0", 13, []api.Grade{{}}, api.ErrNone},
		{"no pour, nor a span", 13, []api.Grade{{Pour: 4, Mille: span(1, 0)}}, api.ErrNone},
		{"no span, and twice", 13, []api.Grade{good, {Pour: 1, Mille: span(1, 0)}}, api.ErrArg},
		{"twice", 13, []api.Grade{good, good}, api.ErrTwice},
		{"twice, with another one between", 13, []api.Grade{good, {Pour: 2}, good}, api.ErrTwice},
		{"twice ahead of no pour", 13, []api.Grade{good, good, {}}, api.ErrTwice},
		{"no pour ahead of twice", 13, []api.Grade{good, {}, good}, api.ErrNone},
		{"no span ahead of no pour", 13, []api.Grade{{Pour: 1, Mille: span(1, 0)}, {}}, api.ErrArg},
	}
	for _, s := range noMilles() {
		tests = append(tests, test{"no span", 13, []api.Grade{{Pour: 2, Mille: s}}, api.ErrArg}, test{"no span behind a good one", 13, []api.Grade{good, {Pour: 2, Mille: s}}, api.ErrArg})
	}
	for _, x := range tests {
		a, b, e := pit.Worth(p, x.barrow, x.l)
		if e != x.want || e != api.OK && (a != (api.Ratio{}) || b != (api.Ratio{})) {
			t.Error("P4.6:", x.name, x.l, a, b, e)
		}
	}
}

// TestManyGrades: as many grades as can be, and as many steps; the last pour is in the only barrow.
func TestManyGrades(t *testing.T) {
	p := pits([]int{api.MaxHold})
	var l []api.Grade
	for id := 1; id < api.MaxStirs; id++ {
		p = more(p, pour(id, 0, 0, 1))
		l = append(l, api.Grade{Pour: id, Mille: span(id, 2*id)})
	}
	p = more(p, take(100, 0, 0, 59))
	if a, b, e := pit.Worth(p, 100, l); a != ratio(30, 1) || b != ratio(60, 1) || e != api.OK {
		t.Error("P4.6:", a, b, e)
	}
	if _, _, e := pit.Worth(p, 100, append(l, l[0])); e != api.ErrTwice {
		t.Error("P4.6: as many as can be, and one twice:", e)
	}
	if _, _, e := pit.Worth(p, 100, append(l, l[0], l[0])); e != api.ErrLimit {
		t.Error("P4.6: too many:", e)
	}
}

// chanceMille is a span within 0 to 1000.
func chanceMille(r *rand.Rand) api.Span {
	a, b := r.IntN(1001), r.IntN(1001)
	switch r.IntN(6) {
	case 0:
		a = 0
	case 1:
		b = 1000
	case 2:
		a = b
	}
	return span(min(a, b), max(a, b))
}

// TestWorth: any grades within what is told make a barrow no better and no worse, and those at the ends just so.
func TestWorth(t *testing.T) {
	many(t, 6, 400, func(t *testing.T, r *rand.Rand, p api.Pits, m model) {
		var l []api.Grade
		told := map[int]api.Span{}
		for _, x := range m.pours {
			told[x.ID] = span(0, 1000)
			if r.IntN(2) == 0 {
				told[x.ID] = chanceMille(r)
				l = append(l, api.Grade{Pour: x.ID, Mille: told[x.ID]})
			}
		}
		r.Shuffle(len(l), func(i, j int) { l[i], l[j] = l[j], l[i] })
		for _, b := range m.barrows {
			least, e1 := divided(m, b, func(x api.Stir) int { return told[x.ID].Lo })
			most, e2 := divided(m, b, func(x api.Stir) int { return told[x.ID].Hi })
			lo, hi, e := pit.Worth(p, b.stir.ID, l)
			if e1 != api.OK || e2 != api.OK {
				if lo != (api.Ratio{}) || hi != (api.Ratio{}) || e != api.ErrRange {
					t.Fatal("P4.6: out of range:", b.stir.ID, lo, hi, e)
				}
				continue
			}
			if lo != least || hi != most || e != api.OK {
				t.Fatal("P4.6:", b.stir.ID, lo, hi, e, least, most)
			}
			grade := new(big.Rat)
			for _, x := range m.pours {
				s := told[x.ID]
				g := of(s.Lo+r.IntN(s.Hi-s.Lo+1), 1)
				grade.Add(grade, g.Mul(g, b.share(x.ID)))
			}
			if grade.Cmp(exact(lo)) < 0 || grade.Cmp(exact(hi)) > 0 {
				t.Fatal("P4.12: a grade lies outside:", b.stir.ID, grade, lo, hi)
			}
		}
	})
}

package fire_test

import (
	"math/rand/v2"
	"slices"
	"testing"

	"calx/api"
	"calx/fire"
)

// contradictions is all pairs of looks that contradict each other, in order.
func contradictions(f api.Fire) [][2]int {
	var l [][2]int
	for _, a := range f.Looks {
		for _, b := range f.Looks {
			if b.Heat.Lo > a.Heat.Hi+walk(f, a.At, b.At) {
				l = append(l, [2]int{a.ID, b.ID})
			}
		}
	}
	slices.SortFunc(l, func(x, y [2]int) int { return slices.Compare(x[:], y[:]) })
	return l
}

// TestClash: looks contradict each other just if there is no field, and the first pair of them is told.
func TestClash(t *testing.T) {
	many(t, 11, func(t *testing.T, r *rand.Rand, f api.Fire, path []api.Spot, s fields) {
		pairs := contradictions(f)
		a, b, found, e := fire.Clash(f)
		if e != api.OK || found != (len(s.all) == 0) {
			t.Fatal("P2.2, P2.12:", a, b, found, e)
		}
		want := [2]int{}
		if found {
			want = pairs[0]
		}
		if [2]int{a, b} != want {
			t.Fatal("P2.2:", a, b, want)
		}
		for _, x := range f.Looks {
			for _, y := range f.Looks {
				e := fire.CheckClash(f, x.ID, y.ID)
				accepted := slices.Contains(pairs, [2]int{x.ID, y.ID})
				if accepted && e != api.OK || !accepted && e != api.ErrProof {
					t.Fatal("P2.2, P2.12:", x.ID, y.ID, e)
				}
			}
		}
	})
}

func TestClashOfExample(t *testing.T) {
	for _, f := range []api.Fire{example(), bare(), {}} {
		if a, b, found, e := fire.Clash(f); a != 0 || b != 0 || found || e != api.OK {
			t.Error("P2.2:", a, b, found, e)
		}
	}
	if a, b, found, e := fire.Clash(broken()); a != 4 || b != 1 || !found || e != api.OK {
		t.Error("P2.2:", a, b, found, e)
	}
	if a, b, found, e := fire.Clash(wrong()); a != 0 || b != 0 || found || e != api.ErrLimit {
		t.Error("P2.2:", a, b, found, e)
	}
	// Looks of the same spot contradict each other as soon as their spans have nothing in common.
	f := plus(bare(), api.Look{ID: 9, Heat: span(5, 7)}, api.Look{ID: 3, Heat: span(8, 9)})
	if a, b, found, e := fire.Clash(f); a != 9 || b != 3 || !found || e != api.OK {
		t.Error("P2.2:", a, b, found, e)
	}
	f.Looks[0].Heat.Hi = 8
	if a, b, found, e := fire.Clash(f); a != 0 || b != 0 || found || e != api.OK {
		t.Error("P2.2:", a, b, found, e)
	}
	// Of two pairs, that with the least ID of a is told, and of those, that with the least of b.
	f = plus(bare(), api.Look{ID: 9, Heat: span(5, 5)}, api.Look{ID: 2, Heat: span(1, 1)}, api.Look{ID: 7, Heat: span(4, 4)})
	if a, b, found, e := fire.Clash(f); a != 2 || b != 7 || !found || e != api.OK {
		t.Error("P2.2:", a, b, found, e)
	}
}

func TestCheckClashErrors(t *testing.T) {
	for _, x := range []struct {
		f    api.Fire
		a, b int
		want api.Errno
	}{
		{broken(), 4, 1, api.OK},
		{broken(), 1, 4, api.ErrProof},
		{broken(), 4, 4, api.ErrProof},
		{broken(), 4, 2, api.ErrProof},
		{broken(), 5, 1, api.ErrNone},
		{broken(), 4, 5, api.ErrNone},
		{broken(), 0, 0, api.ErrNone},
		{example(), 4, 1, api.ErrNone},
		{example(), 1, 2, api.ErrProof},
		{wrong(), 1, 2, api.ErrLimit},
		{bare(), 1, 2, api.ErrNone},
	} {
		if e := fire.CheckClash(x.f, x.a, x.b); e != x.want {
			t.Error("P2.2:", x.a, x.b, e, x.want)
		}
	}
}

// TestSuspects: without a suspect, and without none else, there is a field.
func TestSuspects(t *testing.T) {
	some := 0
	many(t, 12, func(t *testing.T, r *rand.Rand, f api.Fire, path []api.Spot, s fields) {
		var want []int
		for _, x := range f.Looks {
			if len(s.all) == 0 && (len(f.Looks) == 1 || len(fieldsOf(less(f, x.ID)).all) > 0) {
				want = append(want, x.ID)
			}
		}
		slices.Sort(want)
		l, e := fire.Suspects(f)
		if e != api.OK || !slices.Equal(l, want) {
			t.Fatal("P2.3, P2.12:", l, e, want)
		}
		if len(want) == 1 || len(want) == 3 {
			some++
		}
	})
	if some == 0 {
		t.Error("P2.3: too few suspects")
	}
}

func TestSuspectsOfExample(t *testing.T) {
	for _, x := range []struct {
		name string
		f    api.Fire
		l    []int
		want api.Errno
	}{
		{"example", example(), nil, api.OK},
		{"bare", bare(), nil, api.OK},
		{"broken", broken(), []int{4}, api.OK},
		{"wrong", wrong(), nil, api.ErrLimit},
		{"two of a spot", plus(bare(), api.Look{ID: 9, Heat: span(5, 7)}, api.Look{ID: 3, Heat: span(8, 9)}), []int{3, 9}, api.OK},
		{"two clashes", plus(broken(), api.Look{ID: 5, At: spot(10, 21), Heat: span(0, 1)}), nil, api.OK},
	} {
		if l, e := fire.Suspects(x.f); e != x.want || !slices.Equal(l, x.l) {
			t.Error("P2.3:", x.name, l, e)
		}
	}
}

func TestWithout(t *testing.T) {
	f := broken()
	slices.Reverse(f.Looks)
	for _, x := range []struct{ ids, want []int }{
		{nil, []int{4, 3, 2, 1}},
		{[]int{3}, []int{4, 2, 1}},
		{[]int{1, 4}, []int{3, 2}},
		{[]int{99, 0, -1, 2, 2}, []int{4, 3, 1}},
		{[]int{1, 2, 3, 4}, nil},
	} {
		g, e := fire.Without(f, x.ids)
		var ids []int
		for _, x := range g.Looks {
			ids = append(ids, x.ID)
			if !slices.Contains(f.Looks, x) {
				t.Error("P2.3: another look:", x)
			}
		}
		if e != api.OK || !slices.Equal(ids, x.want) || g.Rise != 20 || g.Fall != 10 || g.Up != 5 || g.Down != 30 {
			t.Error("P2.3:", x, g, e)
		}
	}
	if g, e := fire.Without(wrong(), nil); e != api.ErrLimit || g.Looks != nil || g.Rise != 0 || g.Fall != 0 || g.Up != 0 || g.Down != 0 {
		t.Error("P2.3:", g, e)
	}
	// What Without returns has no memory in common with the fire.
	g, _ := fire.Without(f, nil)
	g.Looks[0].ID = 77
	if f.Looks[0].ID != 4 {
		t.Error("P2.3: the looks of the fire were kept")
	}
}

package shaft_test

import (
	"math/rand/v2"
	"reflect"
	"slices"
	"testing"

	"calx/api"
	"calx/shaft"
)

// less is a kiln without one of its weighings.
func less(k api.Kiln, id int) api.Kiln {
	var l []api.Weigh
	for _, w := range k.Weighs {
		if w.ID != id {
			l = append(l, w)
		}
	}
	k.Weighs = l
	return k
}

func TestRests(t *testing.T) {
	many(t, 13, func(t *testing.T, k api.Kiln, all []api.Truth) {
		marks := 1 + len(k.Loads) + len(k.Draws)
		for from := range marks {
			for to := range marks {
				l, e := shaft.Rests(k, from, to)
				if len(all) == 0 {
					if e != api.ErrClash || l != nil {
						t.Fatal("P1.9:", l, e)
					}
					continue
				}
				of := func(x api.Truth) int { return height(k, x, to) - height(k, x, from) }
				with, _ := among(all, of)
				var want []int
				for _, w := range k.Weighs {
					if without, _ := among(truths(less(k, w.ID)), of); without.Hi != with.Hi {
						want = append(want, w.ID)
					}
				}
				slices.Sort(want)
				if e != api.OK || !slices.Equal(l, want) {
					t.Fatal("P1.9:", from, to, l, e, want)
				}
			}
		}
	})
}

func TestSuspects(t *testing.T) {
	many(t, 14, func(t *testing.T, k api.Kiln, all []api.Truth) {
		var want []int
		for _, w := range k.Weighs {
			if len(all) == 0 && len(truths(less(k, w.ID))) > 0 {
				want = append(want, w.ID)
			}
		}
		slices.Sort(want)
		if l, e := shaft.Suspects(k); e != api.OK || !slices.Equal(l, want) {
			t.Fatal("P1.9:", l, e, want)
		}
	})
}

func TestFewerOfExample(t *testing.T) {
	k := example()
	if l, e := shaft.Rests(k, 0, 2); e != api.OK || !slices.Equal(l, []int{21}) {
		t.Error("P1.9:", l, e)
	}
	if l, e := shaft.Rests(k, 0, 3); e != api.OK || !slices.Equal(l, []int{22}) {
		t.Error("P1.9:", l, e)
	}
	if l, e := shaft.Suspects(k); e != api.OK || len(l) != 0 {
		t.Error("P1.9:", l, e)
	}
	k = broken()
	if l, e := shaft.Suspects(k); e != api.OK || !slices.Equal(l, []int{23}) {
		t.Error("P1.9:", l, e)
	}
	if _, e := shaft.Rests(k, 0, 3); e != api.ErrClash {
		t.Error("P1.9:", e)
	}
	if _, e := shaft.Rests(k, 0, 6); e != api.ErrArg {
		t.Error("P1.9: ErrArg ahead of ErrClash:", e)
	}
	// Two weighings that contradict each other are suspects both, by their IDs; two that say the same rest nothing.
	k = example()
	k.Weighs = []api.Weigh{
		{ID: 40, Kind: api.WgLoads, From: 1, To: 1, Sum: api.Span{Lo: 20, Hi: 22}},
		{ID: 30, Kind: api.WgLoads, From: 1, To: 1, Sum: api.Span{Lo: 24, Hi: 26}},
	}
	if l, e := shaft.Suspects(k); e != api.OK || !slices.Equal(l, []int{30, 40}) {
		t.Error("P1.9:", l, e)
	}
	k.Weighs[1].Sum = k.Weighs[0].Sum
	if l, e := shaft.Rests(k, 0, 1); e != api.OK || len(l) != 0 {
		t.Error("P1.9:", l, e)
	}
	// Without any weighing left out alone, a load that cannot fit stays in the way.
	k = broken()
	k.Room = 10
	if l, e := shaft.Suspects(k); e != api.OK || len(l) != 0 {
		t.Error("P1.9:", l, e)
	}
	if l, e := shaft.Suspects(wrong()); e != api.ErrArg || l != nil {
		t.Error("P1.9:", l, e)
	}
	if l, e := shaft.Rests(wrong(), 0, 1); e != api.ErrArg || l != nil {
		t.Error("P1.9:", l, e)
	}
}

func TestWithout(t *testing.T) {
	k := broken()
	for _, x := range []struct{ ids, want []int }{
		{nil, []int{21, 22, 23}}, {[]int{22}, []int{21, 23}}, {[]int{23, 99, 21}, []int{22}},
		{[]int{1, 11, 0, -4}, []int{21, 22, 23}}, {[]int{21, 21, 22, 23}, nil},
	} {
		w, e := shaft.Without(k, x.ids)
		var ids []int
		for _, y := range w.Weighs {
			ids = append(ids, y.ID)
		}
		if e != api.OK || !slices.Equal(ids, x.want) || w.Room != k.Room || w.PerFoot != k.PerFoot || !slices.Equal(w.Loads, k.Loads) || !slices.Equal(w.Draws, k.Draws) {
			t.Error("P1.9:", x, w, e)
		}
	}
	if w, e := shaft.Without(k, []int{21, 23}); e != api.OK || w.Weighs[0] != k.Weighs[1] {
		t.Error("P1.9:", w, e)
	}
	if w, e := shaft.Without(wrong(), nil); e != api.ErrArg || w.Room != 0 || w.Loads != nil {
		t.Error("P1.9:", w, e)
	}
}

// TestMemory: nothing is changed or shared, and the same call answers the same.
func TestMemory(t *testing.T) {
	k := broken()
	w, _ := shaft.Without(k, []int{23})
	w.Loads[0].ID, w.Draws[0].ID, w.Weighs[0].ID = 91, 92, 93
	if !reflect.DeepEqual(k, broken()) {
		t.Error("R6: an argument is shared:", k)
	}
	k = example()
	first, _ := shaft.Above(k, 0, 3)
	first.Path[0], first.Truth.Loads[0], first.Truth.Draws[0] = -1, -1, -1
	a, b, _ := shaft.Taking(k, 11, 3)
	a.Loads[0], a.Draws[0] = -1, -1
	if !isTrue(k, b) {
		t.Error("R6: results share memory:", a, b)
	}
	again, _ := shaft.Above(k, 0, 3)
	third, _ := shaft.Above(k, 0, 3)
	if !reflect.DeepEqual(again, third) || again.Path[0] < 0 || !isTrue(k, again.Truth) {
		t.Error("R7:", again, third)
	}
	ids := []int{22, 21}
	shaft.Without(k, ids)
	shaft.CheckClash(k, ids)
	shaft.Suspects(k)
	shaft.Rests(k, 0, 2)
	if !reflect.DeepEqual(k, example()) || !slices.Equal(ids, []int{22, 21}) {
		t.Error("R6: an argument is modified:", k, ids)
	}
}

// TestMore: with a further weighing no end moves outwards, and what contradicts itself stays so.
func TestMore(t *testing.T) {
	r := rand.New(rand.NewPCG(15, 3))
	many(t, 15, func(t *testing.T, k api.Kiln, all []api.Truth) {
		more := k
		w := api.Weigh{ID: 99, Kind: api.WgHeld, From: r.IntN(8), Sum: api.Span{Lo: r.IntN(3), Hi: 3 + r.IntN(5)}}
		more.Weighs = append(slices.Clone(k.Weighs), w)
		for _, q := range ends(k) {
			a, e := q.ask(k)
			b, f := q.ask(more)
			if e == api.ErrClash && f != api.ErrClash || f == api.OK && (b.Lo < a.Lo || b.Hi > a.Hi) {
				t.Fatal("P1.15:", q.name, a, e, b, f)
			}
		}
	})
}

// TestNotRests: without what it does not rest on, one by one, nothing changes.
func TestNotRests(t *testing.T) {
	many(t, 16, func(t *testing.T, k api.Kiln, all []api.Truth) {
		marks := 1 + len(k.Loads) + len(k.Draws)
		for from := range marks {
			to := (from * 2) % marks
			c, e := shaft.Above(k, from, to)
			if e != api.OK {
				return
			}
			fewer := k
			for _, w := range k.Weighs {
				if l, _ := shaft.Rests(fewer, from, to); !slices.Contains(l, w.ID) {
					fewer, _ = shaft.Without(fewer, []int{w.ID})
				}
			}
			if x, e := shaft.Above(fewer, from, to); e != api.OK || x.Most != c.Most {
				t.Fatal("P1.15:", from, to, x, c, fewer)
			}
		}
	})
}

package shaft_test

import (
	"slices"
	"testing"

	"calx/api"
	"calx/shaft"
)

func TestTookOfExample(t *testing.T) {
	k := example()
	for _, x := range []struct{ draw, load, low, great int }{{11, 1, 15, 18}, {12, 1, 3, 15}, {12, 2, 5, 15}, {12, 3, 0, 7}, {11, 2, 0, 0}, {11, 3, 0, 0}} {
		if s, e := shaft.Took(k, x.draw, x.load); e != api.OK || s != (api.Span{Lo: x.low, Hi: x.great}) {
			t.Error("P1.7:", x, s, e)
		}
	}
}

// TestTookAll: a draw can take as much as the greatest weight.
func TestTookAll(t *testing.T) {
	k := api.Kiln{
		Room: api.MaxRoom, PerFoot: 1,
		Loads: []api.Load{{ID: 1, Weight: api.Span{Lo: 0, Hi: api.MaxWeight}}},
		Draws: []api.Draw{{ID: 2, Weight: api.Span{Lo: 0, Hi: api.MaxWeight}}},
	}
	if s, e := shaft.Took(k, 2, 1); e != api.OK || s != (api.Span{Hi: api.MaxWeight}) {
		t.Error("P1.7:", s, e)
	}
	k.Draws[0].Weight.Lo = api.MaxWeight
	if s, e := shaft.Took(k, 2, 1); e != api.OK || s != (api.Span{Lo: api.MaxWeight, Hi: api.MaxWeight}) {
		t.Error("P1.7:", s, e)
	}
}

func TestTaking(t *testing.T) {
	many(t, 9, func(t *testing.T, k api.Kiln, all []api.Truth) {
		for i, l := range k.Loads {
			for j, d := range k.Draws {
				a, b, e := shaft.Taking(k, d.ID, l.ID)
				if len(all) == 0 {
					if e != api.ErrClash || a.Loads != nil || b.Draws != nil {
						t.Fatal("P1.7:", a, b, e)
					}
					continue
				}
				s, _ := among(all, func(x api.Truth) int { return takes(x, j, i) })
				if e != api.OK || !isTrue(k, a) || !isTrue(k, b) || takes(a, j, i) != s.Lo || takes(b, j, i) != s.Hi {
					t.Fatal("P1.7:", a, b, e, s)
				}
			}
		}
	})
}

// TestMet: sources and sinks are what takes and is taken, surely and possibly.
func TestMet(t *testing.T) {
	many(t, 10, func(t *testing.T, k api.Kiln, all []api.Truth) {
		for j, d := range k.Draws {
			var sure, possible []int
			for i, l := range k.Loads {
				sure, possible = split(sure, possible, l.ID, all, func(x api.Truth) int { return takes(x, j, i) })
			}
			a, b, e := shaft.Sources(k, d.ID)
			matches(t, "P1.8: Sources", a, b, e, sure, possible, all)
		}
		for i, l := range k.Loads {
			var sure, possible []int
			for j, d := range k.Draws {
				sure, possible = split(sure, possible, d.ID, all, func(x api.Truth) int { return takes(x, j, i) })
			}
			a, b, e := shaft.Sinks(k, l.ID)
			matches(t, "P1.8: Sinks", a, b, e, sure, possible, all)
		}
	})
}

// split adds an ID to the lists of those that are taken of surely, and possibly.
func split(sure, possible []int, id int, all []api.Truth, of func(api.Truth) int) ([]int, []int) {
	if len(all) == 0 {
		return nil, nil
	}
	s, _ := among(all, of)
	if s.Lo > 0 {
		sure = append(sure, id)
	}
	if s.Hi > 0 {
		possible = append(possible, id)
	}
	return sure, possible
}

func matches(t *testing.T, name string, a, b []int, e api.Errno, sure, possible []int, all []api.Truth) {
	t.Helper()
	want := api.OK
	if len(all) == 0 {
		want = api.ErrClash
	}
	if e != want || !slices.Equal(a, sure) || !slices.Equal(b, possible) {
		t.Fatal(name, a, b, e, sure, possible)
	}
}

func TestMetOfExample(t *testing.T) {
	k := example()
	if a, b, e := shaft.Sources(k, 12); e != api.OK || !slices.Equal(a, []int{1, 2}) || !slices.Equal(b, []int{1, 2, 3}) {
		t.Error("P1.8:", a, b, e)
	}
	if a, b, e := shaft.Sinks(k, 3); e != api.OK || len(a) != 0 || !slices.Equal(b, []int{12}) {
		t.Error("P1.8:", a, b, e)
	}
	// The lists are in the order of the kiln, not in that of the IDs.
	k.Loads[0].ID, k.Weighs[0].From = 70, 70
	if a, _, e := shaft.Sources(k, 12); e != api.OK || !slices.Equal(a, []int{70, 2}) {
		t.Error("P1.8:", a, e)
	}
}

func TestTakesErrors(t *testing.T) {
	k, bad, none := example(), broken(), example()
	none.Weighs = make([]api.Weigh, 21)
	for _, x := range []struct {
		name           string
		k              api.Kiln
		draw, load     int
		both, one, two api.Errno
	}{
		{"both", k, 11, 1, api.OK, api.OK, api.OK},
		{"kiln", none, 99, 99, api.ErrLimit, api.ErrLimit, api.ErrLimit},
		{"no draw", k, 99, 1, api.ErrNone, api.ErrNone, api.OK},
		{"no load", k, 11, 99, api.ErrNone, api.OK, api.ErrNone},
		{"the wrong way round", k, 1, 11, api.ErrNone, api.ErrNone, api.ErrNone},
		{"a weighing", k, 21, 1, api.ErrNone, api.ErrNone, api.OK},
		{"none ahead of clash", bad, 99, 0, api.ErrNone, api.ErrNone, api.ErrNone},
		{"clash", bad, 11, 1, api.ErrClash, api.ErrClash, api.ErrClash},
	} {
		if _, e := shaft.Took(x.k, x.draw, x.load); e != x.both {
			t.Error("P1.7: Took:", x.name, e)
		}
		if a, b, e := shaft.Taking(x.k, x.draw, x.load); e != x.both || e != api.OK && (a.Loads != nil || b.Loads != nil) {
			t.Error("P1.7: Taking:", x.name, e)
		}
		if a, b, e := shaft.Sources(x.k, x.draw); e != x.one || e != api.OK && (a != nil || b != nil) {
			t.Error("P1.8: Sources:", x.name, e)
		}
		if a, b, e := shaft.Sinks(x.k, x.load); e != x.two || e != api.OK && (a != nil || b != nil) {
			t.Error("P1.8: Sinks:", x.name, e)
		}
	}
}

// TestAllIsTaken: what is told adds up.
func TestAllIsTaken(t *testing.T) {
	many(t, 11, func(t *testing.T, k api.Kiln, all []api.Truth) {
		for _, x := range all[:min(len(all), 20)] {
			for i := range k.Loads {
				got := 0
				for j := range k.Draws {
					got += takes(x, j, i)
				}
				if got > x.Loads[i] {
					t.Fatal("P1.13:", x, i)
				}
			}
			for j := range k.Draws {
				got := 0
				for i := range k.Loads {
					got += takes(x, j, i)
				}
				if got != x.Draws[j] {
					t.Fatal("P1.13:", x, j)
				}
			}
		}
		if len(all) == 0 {
			return
		}
		for _, d := range k.Draws {
			w, _ := shaft.Weight(k, d.ID)
			var got api.Span
			for _, l := range k.Loads {
				s, _ := shaft.Took(k, d.ID, l.ID)
				got.Lo += s.Lo
				got.Hi += s.Hi
			}
			if got.Lo > w.Hi || got.Hi < w.Lo {
				t.Fatal("P1.13:", d.ID, got, w)
			}
		}
	})
}

// TestInOrder: a draw takes of loads that lie one on the other, and of none that came later.
func TestInOrder(t *testing.T) {
	many(t, 12, func(t *testing.T, k api.Kiln, all []api.Truth) {
		if len(all) == 0 {
			return
		}
		for _, d := range k.Draws {
			sure, possible, _ := shaft.Sources(k, d.ID)
			first, last := -1, -1
			for i, l := range k.Loads {
				if slices.Contains(sure, l.ID) {
					last = i
					if first < 0 {
						first = i
					}
				}
				if l.Hour > d.Hour && slices.Contains(possible, l.ID) {
					t.Fatal("P1.14: of a later load:", d.ID, l.ID)
				}
			}
			for i := first; first >= 0 && i <= last; i++ {
				s, _ := shaft.Weight(k, k.Loads[i].ID)
				if s.Lo > 0 && !slices.Contains(sure, k.Loads[i].ID) {
					t.Fatal("P1.14: not of one between:", d.ID, k.Loads[i].ID)
				}
			}
		}
	})
}

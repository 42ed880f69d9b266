package shaft_test

import (
	"math"
	"testing"

	"calx/api"
	"calx/shaft"
)

// asked is a question for a span, and the number of which it asks.
type asked struct {
	name string
	ask  func(k api.Kiln) (api.Span, api.Errno)
	of   func(t api.Truth) int
}

// ends are all questions for weights of a kiln.
func ends(k api.Kiln) []asked {
	var l []asked
	add := func(name string, ask func(k api.Kiln) (api.Span, api.Errno), of func(t api.Truth) int) {
		l = append(l, asked{name, ask, of})
	}
	for i, a := range k.Loads {
		add("Weight", func(k api.Kiln) (api.Span, api.Errno) { return shaft.Weight(k, a.ID) }, func(t api.Truth) int { return t.Loads[i] })
		for j := i; j < len(k.Loads); j++ {
			add("Run", func(k api.Kiln) (api.Span, api.Errno) { return shaft.Run(k, a.ID, k.Loads[j].ID) }, func(t api.Truth) int { return sum(t.Loads[i : j+1]) })
		}
		for hour := a.Hour; hour < 10; hour++ {
			add("Below", func(k api.Kiln) (api.Span, api.Errno) { return shaft.Below(k, a.ID, hour) }, func(t api.Truth) int { return sum(t.Loads[:i]) - drawn(k, t, hour) })
		}
		for j, b := range k.Draws {
			add("Took", func(k api.Kiln) (api.Span, api.Errno) { return shaft.Took(k, b.ID, a.ID) }, func(t api.Truth) int { return takes(t, j, i) })
		}
	}
	for i, a := range k.Draws {
		add("Weight", func(k api.Kiln) (api.Span, api.Errno) { return shaft.Weight(k, a.ID) }, func(t api.Truth) int { return t.Draws[i] })
		for j := i; j < len(k.Draws); j++ {
			add("Run", func(k api.Kiln) (api.Span, api.Errno) { return shaft.Run(k, a.ID, k.Draws[j].ID) }, func(t api.Truth) int { return sum(t.Draws[i : j+1]) })
		}
	}
	for hour := range 10 {
		add("Held", func(k api.Kiln) (api.Span, api.Errno) { return shaft.Held(k, hour) }, func(t api.Truth) int { return charged(k, t, hour) - drawn(k, t, hour) })
	}
	return l
}

// TestEnds: each end, and each number between, is that of true weights.
func TestEnds(t *testing.T) {
	many(t, 7, func(t *testing.T, k api.Kiln, all []api.Truth) {
		for _, q := range ends(k) {
			s, e := q.ask(k)
			if len(all) == 0 {
				if e != api.ErrClash || s != (api.Span{}) {
					t.Fatal("P1.5 to P1.7:", q.name, s, e)
				}
				continue
			}
			want, whole := among(all, q.of)
			if e != api.OK || s != want {
				t.Fatal("P1.5 to P1.7:", q.name, s, e, want)
			}
			if !whole {
				t.Fatal("P1.12:", q.name, s)
			}
		}
	})
}

func TestEndsOfExample(t *testing.T) {
	k := example()
	for _, x := range []told{
		answer("Weight of 1", 21, 30)(shaft.Weight(k, 1)),
		answer("Weight of 2", 10, 15)(shaft.Weight(k, 2)),
		answer("Weight of 3", 25, 37)(shaft.Weight(k, 3)),
		answer("Weight of 11", 15, 18)(shaft.Weight(k, 11)),
		answer("Run of loads", 36, 40)(shaft.Run(k, 1, 2)),
		answer("Run of draws", 35, 43)(shaft.Run(k, 11, 12)),
		answer("Held behind 0", 21, 30)(shaft.Held(k, 0)),
		answer("Held behind 3", 36, 40)(shaft.Held(k, 3)),
		answer("Held behind 4", 18, 25)(shaft.Held(k, 4)),
		answer("Held behind 9", 25, 35)(shaft.Held(k, 9)),
		answer("Held at the end", 25, 35)(shaft.Held(k, api.MaxHour)),
		answer("Below", 18, 25)(shaft.Below(k, 3, 6)),
		answer("Below as it is charged", 18, 25)(shaft.Below(k, 3, 5)),
		answer("Below of a load that was drawn", -18, -15)(shaft.Below(k, 1, 6)),
		answer("Feet", 1, 2)(shaft.Feet(k, 3, 6)),
		answer("Feet of a load that was drawn", -2, -2)(shaft.Feet(k, 1, 6)),
		answer("Held of nothing", 0, 0)(shaft.Held(empty(), 7)),
	} {
		if x.e != api.OK || x.s != x.want {
			t.Error("P1.5, P1.6:", x)
		}
	}
}

// told is what is told, and what should be told.
type told struct {
	name string
	s    api.Span
	e    api.Errno
	want api.Span
}

func answer(name string, low, great int) func(s api.Span, e api.Errno) told {
	return func(s api.Span, e api.Errno) told { return told{name, s, e, api.Span{Lo: low, Hi: great}} }
}

// TestFeet: feet are rounded down, also below 0.
func TestFeet(t *testing.T) {
	many(t, 8, func(t *testing.T, k api.Kiln, all []api.Truth) {
		for _, l := range k.Loads {
			for hour := l.Hour; hour < 9; hour++ {
				s, e := shaft.Feet(k, l.ID, hour)
				b, f := shaft.Below(k, l.ID, hour)
				down := func(x int) int { return int(math.Floor(float64(x) / float64(k.PerFoot))) }
				if e != f || s != (api.Span{Lo: down(b.Lo), Hi: down(b.Hi)}) {
					t.Fatal("P1.6:", s, b, e, f)
				}
			}
		}
	})
}

func TestEndsErrors(t *testing.T) {
	span := func(_ api.Span, e api.Errno) api.Errno { return e }
	k, bad, none := example(), broken(), wrong()
	none.PerFoot, none.Loads = 1, make([]api.Load, 21)
	for _, x := range []struct {
		name      string
		got, want api.Errno
	}{
		{"Weight: kiln", span(shaft.Weight(none, 99)), api.ErrLimit},
		{"Weight: none", span(shaft.Weight(k, 99)), api.ErrNone},
		{"Weight: of a weighing", span(shaft.Weight(k, 21)), api.ErrNone},
		{"Weight: of 0", span(shaft.Weight(k, 0)), api.ErrNone},
		{"Weight: none ahead of clash", span(shaft.Weight(bad, 99)), api.ErrNone},
		{"Weight: clash", span(shaft.Weight(bad, 2)), api.ErrClash},
		{"Run: kiln", span(shaft.Run(none, 1, 2)), api.ErrLimit},
		{"Run: none", span(shaft.Run(k, 1, 99)), api.ErrNone},
		{"Run: none", span(shaft.Run(k, 99, 1)), api.ErrNone},
		{"Run: both sorts", span(shaft.Run(k, 1, 11)), api.ErrNone},
		{"Run: both sorts", span(shaft.Run(k, 11, 1)), api.ErrNone},
		{"Run: weighings", span(shaft.Run(k, 21, 22)), api.ErrNone},
		{"Run: backwards", span(shaft.Run(k, 2, 1)), api.ErrArg},
		{"Run: draws backwards", span(shaft.Run(k, 12, 11)), api.ErrArg},
		{"Run: backwards ahead of clash", span(shaft.Run(bad, 2, 1)), api.ErrArg},
		{"Run: clash", span(shaft.Run(bad, 1, 2)), api.ErrClash},
		{"Held: kiln", span(shaft.Held(none, -1)), api.ErrLimit},
		{"Held: hour", span(shaft.Held(k, -1)), api.ErrArg},
		{"Held: hour", span(shaft.Held(k, api.MaxHour+1)), api.ErrArg},
		{"Held: hour ahead of clash", span(shaft.Held(bad, -1)), api.ErrArg},
		{"Held: clash", span(shaft.Held(bad, 1)), api.ErrClash},
		{"Below: kiln", span(shaft.Below(none, 99, -1)), api.ErrLimit},
		{"Below: hour ahead of none", span(shaft.Below(k, 99, -1)), api.ErrArg},
		{"Below: hour", span(shaft.Below(k, 1, api.MaxHour+1)), api.ErrArg},
		{"Below: none", span(shaft.Below(k, 99, 4)), api.ErrNone},
		{"Below: a draw", span(shaft.Below(k, 11, 9)), api.ErrNone},
		{"Below: not charged", span(shaft.Below(k, 3, 4)), api.ErrArg},
		{"Below: not charged ahead of clash", span(shaft.Below(bad, 3, 4)), api.ErrArg},
		{"Below: clash", span(shaft.Below(bad, 3, 5)), api.ErrClash},
		{"Feet: kiln", span(shaft.Feet(wrong(), 1, 0)), api.ErrArg},
		{"Feet: hour ahead of none", span(shaft.Feet(k, 99, -1)), api.ErrArg},
		{"Feet: none", span(shaft.Feet(k, 99, 4)), api.ErrNone},
		{"Feet: not charged", span(shaft.Feet(k, 3, 4)), api.ErrArg},
		{"Feet: clash", span(shaft.Feet(bad, 3, 5)), api.ErrClash},
	} {
		if x.got != x.want {
			t.Errorf("P1.5, P1.6: %s: %d, want %d", x.name, x.got, x.want)
		}
	}
}

// TestGreatEnds: true weights of the greatest kilns lie within what is told.
func TestGreatEnds(t *testing.T) {
	for seed := range uint64(2) {
		k, w := great(seed)
		for i, l := range k.Loads {
			s, e := shaft.Weight(k, l.ID)
			if e != api.OK || !inside(w.Loads[i], s) || s.Lo < l.Weight.Lo || s.Hi > l.Weight.Hi {
				t.Error("P1.12:", i, s, e)
			}
			for j, d := range k.Draws {
				s, e := shaft.Took(k, d.ID, l.ID)
				if e != api.OK || !inside(takes(w, j, i), s) {
					t.Error("P1.12:", j, i, s, e)
				}
			}
		}
		for hour := 0; hour <= api.MaxHour; hour += 500 {
			s, e := shaft.Held(k, hour)
			if e != api.OK || !inside(charged(k, w, hour)-drawn(k, w, hour), s) {
				t.Error("P1.12:", hour, s, e)
			}
		}
	}
}

package fire_test

import (
	"math/rand/v2"
	"slices"
	"testing"

	"calx/api"
	"calx/fire"
)

// TestWould: the ends are those of all fields that keep the further look, too, and none of them moves outwards.
func TestWould(t *testing.T) {
	many(t, 41, func(t *testing.T, r *rand.Rand, f api.Fire, path []api.Spot, s fields) {
		at, x := path[2], api.Look{ID: 50 * r.IntN(2), At: path[0]}
		if x.ID == 0 {
			// An ID ahead of those of all others, so that the further look is told.
			x.ID = 1
			for i := range f.Looks {
				f.Looks[i].ID += 10
			}
		}
		x.Heat = f.Looks[0].Heat
		if len(s.all) > 0 {
			// From a bit below the least heat to a bit above the greatest one.
			ends := s.ends(x.At)
			a := min(max(ends.Lo-1+r.IntN(ends.Hi-ends.Lo+3), 0), api.MaxHeat)
			x.Heat = span(a, min(a+r.IntN(3), api.MaxHeat))
		}
		b, e := fire.Would(f, x, at)
		g := plus(f, x)
		all := fieldsOf(g, at)
		if len(all.all) == 0 {
			if e != api.ErrClash || b != (api.Bounds{}) {
				t.Fatal("P2.9:", x, b, e)
			}
			return
		}
		if want := shown(g, at, all.ends(at)); e != api.OK || b != want {
			t.Fatal("P2.9:", x, b, e, want)
		}
		if old := s.ends(at); b.Span.Lo < old.Lo || b.Span.Hi > old.Hi {
			t.Fatal("P2.13: an end moves outwards:", x, b, old)
		}
		x.Heat = s.ends(x.At)
		if b, e := fire.Would(f, x, at); e != api.OK || b.Span != s.ends(at) {
			t.Fatal("P2.13: a look that tells nothing new:", x, b, e)
		}
	})
}

func TestWouldOfExample(t *testing.T) {
	full := bare()
	for i := range api.MaxLooks {
		full.Looks = append(full.Looks, api.Look{ID: 1 + i, Heat: span(0, api.MaxHeat)})
	}
	x := api.Look{ID: 9, At: spot(10, 12), Heat: span(930, 950)}
	for _, c := range []struct {
		name string
		f    api.Fire
		x    api.Look
		at   api.Spot
		b    api.Bounds
		want api.Errno
	}{
		{"a higher low end", example(), x, spot(10, 15), api.Bounds{Span: span(900, 1010), Low: 9, High: 9}, api.OK},
		{"as the only look", bare(), x, spot(10, 12), api.Bounds{Span: span(930, 950), Low: 9, High: 9}, api.OK},
		{"as the last look that can be", less(full, 5), x, spot(10, 12), api.Bounds{Span: span(930, 950), Low: 9, High: 9}, api.ErrTwice},
		{"as the last look that can be, by another ID", less(full, 9), x, spot(10, 12), api.Bounds{Span: span(930, 950), Low: 9, High: 9}, api.OK},
		{"a look too many", full, x, spot(10, 12), api.Bounds{}, api.ErrLimit},
		{"a look too many ahead of its ID", full, api.Look{ID: 0}, spot(10, 12), api.Bounds{}, api.ErrLimit},
		{"an ID twice", example(), api.Look{ID: 3, At: spot(10, 20), Heat: span(950, 1000)}, spot(10, 12), api.Bounds{}, api.ErrTwice},
		{"no look", example(), api.Look{ID: 9, Heat: span(2, 1)}, spot(10, 12), api.Bounds{}, api.ErrArg},
		{"a wrong spot of it", example(), api.Look{ID: 9, At: spot(61, 0)}, spot(10, 12), api.Bounds{}, api.ErrArg},
		{"a wrong spot ahead of a look too many", full, x, spot(-1, 12), api.Bounds{}, api.ErrArg},
		{"a wrong spot ahead of an ID twice", example(), api.Look{ID: 3}, spot(0, -1), api.Bounds{}, api.ErrArg},
		{"the fire ahead of a wrong spot", wrong(), x, spot(-1, 12), api.Bounds{}, api.ErrLimit},
		{"an ID twice ahead of a clash", broken(), api.Look{ID: 3}, spot(10, 12), api.Bounds{}, api.ErrTwice},
		{"no look ahead of a clash", broken(), api.Look{}, spot(10, 12), api.Bounds{}, api.ErrArg},
		{"looks that do not agree", broken(), x, spot(10, 12), api.Bounds{}, api.ErrClash},
		{"a look that does not agree", example(), api.Look{ID: 4, At: spot(10, 6), Heat: span(600, 650)}, spot(10, 12), api.Bounds{}, api.ErrClash},
	} {
		if c.want != api.OK {
			c.b = api.Bounds{}
		}
		if b, e := fire.Would(c.f, c.x, c.at); b != c.b || e != c.want {
			t.Error("P2.9:", c.name, b, e)
		}
	}
}

// makesSure is whether at least so much at the first spot makes the second one hot enough, in all fields.
func makesSure(s fields, look, at api.Spot, heat, need int) bool {
	return !slices.ContainsFunc(s.all, func(field []int) bool {
		h := s.of(field, look, at)
		return h[0] >= heat && h[1] < need
	})
}

// makesSureNot is whether just the least heat of the first spot makes the second one too cool, in all fields.
func makesSureNot(s fields, look, at api.Spot, need int) bool {
	least := s.ends(look).Lo
	return !slices.ContainsFunc(s.all, func(field []int) bool {
		h := s.of(field, look, at)
		return h[0] == least && h[1] >= need
	})
}

// needed is the least heat that makes sure, tried one by one.
func needed(s fields, look, at api.Spot, need int) (int, bool) {
	ends := s.ends(look)
	for heat := ends.Lo; heat <= ends.Hi; heat++ {
		if makesSure(s, look, at, heat, need) {
			return heat, true
		}
	}
	return 0, false
}

// TestNeeded: the least heat that makes sure is told, and the spots at which a look can make sure in both ways.
func TestNeeded(t *testing.T) {
	counts := map[string]int{}
	many(t, 42, func(t *testing.T, r *rand.Rand, f api.Fire, path []api.Spot, s fields) {
		at := path[1]
		l := []api.Spot{path[2], path[1], path[0], path[2]}
		if len(s.all) == 0 {
			if h, ok, e := fire.Needed(f, path[0], at, 5); h != 0 || ok || e != api.ErrClash {
				t.Fatal("P2.10:", h, ok, e)
			}
			if l, e := fire.Decides(f, l, at, 5); l != nil || e != api.ErrClash {
				t.Fatal("P2.10:", l, e)
			}
			return
		}
		ends := s.ends(at)
		for need := max(ends.Lo-1, 0); need <= min(ends.Hi+1, api.MaxHeat); need++ {
			var want []int
			for i, look := range l {
				h, ok := needed(s, look, at, need)
				if got, sure, e := fire.Needed(f, look, at, need); got != h || sure != ok || e != api.OK {
					t.Fatal("P2.10, P2.15:", look, at, need, got, sure, e, h, ok)
				}
				if !ok {
					counts["no heat"]++
				}
				if ok && h > s.ends(look).Lo {
					counts["a heat"]++
					if makesSureNot(s, look, at, need) {
						want = append(want, i)
					}
				}
			}
			counts["decides"] += len(want)
			if got, e := fire.Decides(f, l, at, need); !slices.Equal(got, want) || e != api.OK {
				t.Fatal("P2.10, P2.15:", l, at, need, got, e, want)
			}
		}
	})
	if counts["no heat"] < 50 || counts["a heat"] < 50 || counts["decides"] < 50 {
		t.Error("too few of a sort:", counts)
	}
}

func TestNeededOfExample(t *testing.T) {
	for _, x := range []struct {
		name     string
		f        api.Fire
		look, at api.Spot
		need     int
		heat     int
		ok       bool
		want     api.Errno
	}{
		{"the example", example(), spot(10, 12), spot(10, 15), 900, 930, true, api.OK},
		{"sure without a look", example(), spot(10, 12), spot(10, 15), 850, 790, true, api.OK},
		{"one degree more", example(), spot(10, 12), spot(10, 15), 851, 881, true, api.OK},
		{"at a later hour", example(), spot(10, 25), spot(10, 15), 900, 1100, true, api.OK},
		{"just the high end", example(), spot(10, 12), spot(10, 15), 960, 990, true, api.OK},
		{"more than the high end", example(), spot(10, 12), spot(10, 15), 961, 0, false, api.OK},
		{"at the spot itself", example(), spot(10, 15), spot(10, 15), 900, 900, true, api.OK},
		{"at the spot itself, its high end", example(), spot(10, 15), spot(10, 15), 1050, 1050, true, api.OK},
		{"at the spot itself, above that", example(), spot(10, 15), spot(10, 15), 1051, 0, false, api.OK},
		{"need 0", example(), spot(50, 5), spot(10, 1000), 0, 0, true, api.OK},
		{"without looks", bare(), spot(0, 0), spot(0, 10), 1400, api.MaxHeat, true, api.OK},
		{"without looks, too far", bare(), spot(0, 0), spot(0, 10), 1401, 0, false, api.OK},
		{"need below 0", example(), spot(10, 12), spot(10, 15), -1, 0, false, api.ErrArg},
		{"need too great", example(), spot(10, 12), spot(10, 15), api.MaxHeat + 1, 0, false, api.ErrArg},
		{"need ahead of a clash", broken(), spot(10, 12), spot(10, 15), -1, 0, false, api.ErrArg},
		{"a clash", broken(), spot(10, 12), spot(10, 15), 900, 0, false, api.ErrClash},
		{"the fire first", wrong(), spot(-1, 12), spot(10, 15), -1, 0, false, api.ErrLimit},
	} {
		if heat, ok, e := fire.Needed(x.f, x.look, x.at, x.need); heat != x.heat || ok != x.ok || e != x.want {
			t.Error("P2.10:", x.name, heat, ok, e)
		}
	}
}

func TestDecidesOfExample(t *testing.T) {
	near := []api.Spot{spot(10, 15), spot(10, 12), spot(10, 14), spot(11, 15), spot(10, 15), spot(10, 1000), spot(10, 25)}
	for _, x := range []struct {
		name string
		f    api.Fire
		l    []api.Spot
		need int
		want []int
		e    api.Errno
	}{
		// At the hour 25 it is enough to see 1100 degrees, but if it has just 900 there, the hour 15 can have had 1000.
		{"all that are near", example(), near, 900, []int{0, 1, 2, 3, 4}, api.OK},
		{"just above the low end", example(), near, 851, []int{0, 1, 2, 3, 4}, api.OK},
		{"sure without a look", example(), near, 850, nil, api.OK},
		{"more than can be", example(), near, 1051, nil, api.OK},
		{"as much as can be", example(), near, 1050, []int{0, 4}, api.OK},
		{"no spots", example(), nil, 900, nil, api.OK},
		{"need below 0", example(), near, -1, nil, api.ErrArg},
		{"need too great", example(), near, api.MaxHeat + 1, nil, api.ErrArg},
		{"need ahead of a clash", broken(), near, -1, nil, api.ErrArg},
		{"a clash", broken(), near, 900, nil, api.ErrClash},
		{"too long a list ahead of need", example(), make([]api.Spot, api.MaxSpots+1), -1, nil, api.ErrLimit},
		{"the fire first", wrong(), near, -1, nil, api.ErrLimit},
	} {
		if l, e := fire.Decides(x.f, x.l, spot(10, 15), x.need); !slices.Equal(l, x.want) || e != x.e {
			t.Error("P2.10:", x.name, l, e)
		}
	}
	// Too long a list comes ahead of a wrong spot that is not of it.
	if l, e := fire.Decides(example(), make([]api.Spot, api.MaxSpots+1), spot(-1, 0), 5); l != nil || e != api.ErrLimit {
		t.Error("P2.10:", l, e)
	}
}

package fire_test

import (
	"math"
	"math/rand/v2"
	"slices"
	"testing"

	"calx/api"
	"calx/fire"
)

// shown is the bounds of a spot with some ends, and the least IDs of the looks that show them.
func shown(f api.Fire, at api.Spot, ends api.Span) api.Bounds {
	b := api.Bounds{Span: ends}
	for _, x := range f.Looks {
		if x.Heat.Lo-walk(f, at, x.At) == ends.Lo && (b.Low == 0 || x.ID < b.Low) {
			b.Low = x.ID
		}
		if x.Heat.Hi+walk(f, x.At, at) == ends.Hi && (b.High == 0 || x.ID < b.High) {
			b.High = x.ID
		}
	}
	return b
}

// TestEnds: the ends are those of all fields, in whatever order the looks are told.
func TestEnds(t *testing.T) {
	many(t, 21, func(t *testing.T, r *rand.Rand, f api.Fire, path []api.Spot, s fields) {
		for _, at := range append(path, f.Looks[0].At) {
			b, e := fire.Ends(f, at)
			if len(s.all) == 0 {
				if e != api.ErrClash || b != (api.Bounds{}) {
					t.Fatal("P2.4:", at, b, e)
				}
				continue
			}
			if want := shown(f, at, s.ends(at)); e != api.OK || b != want {
				t.Fatal("P2.4, P2.11:", at, b, e, want)
			}
			slices.Reverse(f.Looks)
			if other, e := fire.Ends(f, at); other != b || e != api.OK {
				t.Fatal("P2.16:", at, other, e, b)
			}
		}
	})
}

// TestCheckEnds: just the ends are accepted, by each look that shows them, or by none where none is needed.
func TestCheckEnds(t *testing.T) {
	many(t, 22, func(t *testing.T, r *rand.Rand, f api.Fire, path []api.Spot, s fields) {
		at := path[0]
		if len(s.all) == 0 {
			if e := fire.CheckEnds(f, at, api.Bounds{}); e != api.ErrClash {
				t.Fatal("P2.4:", e)
			}
			return
		}
		ends := s.ends(at)
		ids := []int{0, 99, -1}
		low := map[int]bool{0: ends.Lo == 0}
		high := map[int]bool{0: ends.Hi == api.MaxHeat}
		for _, x := range f.Looks {
			ids = append(ids, x.ID)
			low[x.ID] = x.Heat.Lo-walk(f, at, x.At) == ends.Lo
			high[x.ID] = x.Heat.Hi+walk(f, x.At, at) == ends.Hi
		}
		for _, a := range ids {
			for _, b := range ids {
				want := api.ErrProof
				if low[a] && high[b] {
					want = api.OK
				}
				if e := fire.CheckEnds(f, at, api.Bounds{Span: ends, Low: a, High: b}); e != want {
					t.Fatal("P2.4:", ends, a, b, e, want)
				}
			}
		}
		b, _ := fire.Ends(f, at)
		for _, x := range []api.Span{span(ends.Lo-1, ends.Hi), span(ends.Lo+1, ends.Hi), span(ends.Lo, ends.Hi-1), span(ends.Lo, ends.Hi+1), {}, span(math.MinInt, math.MaxInt)} {
			b.Span = x
			if e := fire.CheckEnds(f, at, b); x != ends && e != api.ErrProof {
				t.Fatal("P2.4:", x, e)
			}
		}
	})
}

// lone is a fire with one look, 5, at the lowest foot.
func lone(hour, lo, hi int) api.Fire {
	return plus(bare(), api.Look{ID: 5, At: spot(0, hour), Heat: span(lo, hi)})
}

func TestEndsOfExample(t *testing.T) {
	for _, x := range []struct {
		name string
		f    api.Fire
		at   api.Spot
		want api.Bounds
	}{
		{"two show the low end", example(), spot(10, 10), api.Bounds{Span: span(750, 950), Low: 1, High: 2}},
		{"two show the high end", example(), spot(10, 15), api.Bounds{Span: span(850, 1050), Low: 3, High: 2}},
		{"nothing below", example(), spot(50, 5), api.Bounds{Span: span(0, 1070), Low: 0, High: 2}},
		{"far away", example(), spot(10, 1000), api.Bounds{Span: span(0, api.MaxHeat)}},
		{"no looks", bare(), spot(10, 5), api.Bounds{Span: span(0, api.MaxHeat)}},
		{"a look that shows 0", lone(0, 10, 20), spot(0, 1), api.Bounds{Span: span(0, 40), Low: 5, High: 5}},
		{"a look that shows less than 0", lone(0, 9, 20), spot(0, 1), api.Bounds{Span: span(0, 40), High: 5}},
		{"a look that shows the greatest heat", lone(0, 1480, 1480), spot(0, 1), api.Bounds{Span: span(1470, api.MaxHeat), Low: 5, High: 5}},
		{"a look that shows more than that", lone(0, 1481, 1481), spot(0, 1), api.Bounds{Span: span(1471, api.MaxHeat), Low: 5}},
		{"an hour ahead of a look", lone(2, 50, 60), spot(0, 1), api.Bounds{Span: span(30, 70), Low: 5, High: 5}},
		{"a foot above a look", lone(0, 50, 60), spot(1, 0), api.Bounds{Span: span(20, 65), Low: 5, High: 5}},
		{"at the look", lone(3, 50, 60), spot(0, 3), api.Bounds{Span: span(50, 60), Low: 5, High: 5}},
		{"looks that tell nothing", plus(bare(), api.Look{ID: 8, Heat: span(0, api.MaxHeat)}, api.Look{ID: 6, Heat: span(0, api.MaxHeat)}), spot(0, 0), api.Bounds{Span: span(0, api.MaxHeat), Low: 6, High: 6}},
	} {
		if b, e := fire.Ends(x.f, x.at); b != x.want || e != api.OK {
			t.Error("P2.4:", x.name, b, e, x.want)
		}
		if e := fire.CheckEnds(x.f, x.at, x.want); e != api.OK {
			t.Error("P2.4:", x.name, e)
		}
	}
}

// TestCheckEndsOfExample: a look that says less than others does not show an end.
func TestCheckEndsOfExample(t *testing.T) {
	for _, x := range []struct {
		b    api.Bounds
		want api.Errno
	}{
		{api.Bounds{Span: span(750, 950), Low: 1, High: 2}, api.OK},
		{api.Bounds{Span: span(750, 950), Low: 3, High: 2}, api.OK},
		{api.Bounds{Span: span(750, 950), Low: 2, High: 2}, api.ErrProof},
		{api.Bounds{Span: span(670, 950), Low: 2, High: 2}, api.ErrProof},
		{api.Bounds{Span: span(750, 1000), Low: 1, High: 1}, api.ErrProof},
		{api.Bounds{Span: span(0, 950), Low: 0, High: 2}, api.ErrProof},
		{api.Bounds{Span: span(750, api.MaxHeat), Low: 1, High: 0}, api.ErrProof},
		{api.Bounds{}, api.ErrProof},
	} {
		if e := fire.CheckEnds(example(), spot(10, 10), x.b); e != x.want {
			t.Error("P2.4:", x.b, e)
		}
	}
}

// TestAtOnce: some field is coolest, and some is hottest, at all spots at once.
func TestAtOnce(t *testing.T) {
	many(t, 23, func(t *testing.T, r *rand.Rand, f api.Fire, path []api.Spot, s fields) {
		l := append(slices.Clone(path), path[0])
		low, e := fire.Coolest(f, l)
		high, g := fire.Hottest(f, l)
		if len(s.all) == 0 {
			if e != api.ErrClash || g != api.ErrClash || low != nil || high != nil {
				t.Fatal("P2.5:", low, e, high, g)
			}
			return
		}
		if e != api.OK || g != api.OK || len(low) != len(l) || len(high) != len(l) {
			t.Fatal("P2.5:", low, e, high, g)
		}
		for i, at := range l {
			if s.ends(at) != span(low[i], high[i]) {
				t.Fatal("P2.5:", at, low, high)
			}
		}
		for _, want := range [][]int{low, high} {
			has := func(field []int) bool { return slices.Equal(s.of(field, l...), want) }
			if !slices.ContainsFunc(s.all, has) {
				t.Fatal("P2.5, P2.11:", want)
			}
			if ok, e := fire.Fits(f, l, want); !ok || e != api.OK {
				t.Fatal("P2.5, P2.11:", want, e)
			}
		}
	})
}

// TestFits: just the heats that a field gives to spots fit.
func TestFits(t *testing.T) {
	many(t, 24, func(t *testing.T, r *rand.Rand, f api.Fire, path []api.Spot, s fields) {
		if len(s.all) == 0 {
			if ok, e := fire.Fits(f, path, []int{700, 700, 700}); ok || e != api.ErrClash {
				t.Fatal("P2.5:", ok, e)
			}
			return
		}
		can := map[[3]int]bool{}
		for _, field := range s.all {
			can[[3]int(s.of(field, path...))] = true
		}
		for range 300 {
			var l [3]int
			for i, at := range path {
				ends := s.ends(at)
				l[i] = min(max(ends.Lo-1+r.IntN(ends.Hi-ends.Lo+3), 0), api.MaxHeat)
			}
			if ok, e := fire.Fits(f, path, l[:]); ok != can[l] || e != api.OK {
				t.Fatal("P2.5, P2.11:", l, ok, e)
			}
		}
	})
}

func TestFitsOfExample(t *testing.T) {
	a, b := spot(10, 10), spot(10, 15)
	long := make([]api.Spot, api.MaxSpots+1)
	for _, x := range []struct {
		name  string
		f     api.Fire
		l     []api.Spot
		heats []int
		ok    bool
		want  api.Errno
	}{
		{"nothing", example(), nil, nil, true, api.OK},
		{"between", example(), []api.Spot{a, b}, []int{800, 900}, true, api.OK},
		{"as much as it can rise", example(), []api.Spot{b, a}, []int{900, 800}, true, api.OK},
		{"more than it can rise", example(), []api.Spot{a, b}, []int{800, 901}, false, api.OK},
		{"as much as it can fall", example(), []api.Spot{a, b}, []int{910, 860}, true, api.OK},
		{"more than it can fall", example(), []api.Spot{a, b}, []int{911, 860}, false, api.OK},
		{"below the low end", example(), []api.Spot{a}, []int{749}, false, api.OK},
		{"at the low end", example(), []api.Spot{a}, []int{750}, true, api.OK},
		{"at the high end", example(), []api.Spot{a}, []int{950}, true, api.OK},
		{"above the high end", example(), []api.Spot{a}, []int{951}, false, api.OK},
		{"a spot twice", example(), []api.Spot{a, b, a}, []int{800, 900, 800}, true, api.OK},
		{"a spot twice with two heats", example(), []api.Spot{a, b, a}, []int{800, 900, 801}, false, api.OK},
		{"without looks", bare(), []api.Spot{a, b}, []int{0, 100}, true, api.OK},
		{"without looks, too steep", bare(), []api.Spot{a, b}, []int{0, 101}, false, api.OK},
		{"too few heats", example(), []api.Spot{a, b}, []int{800}, false, api.ErrArg},
		{"too many heats", example(), []api.Spot{a}, []int{800, 900}, false, api.ErrArg},
		{"no heats", example(), []api.Spot{a}, nil, false, api.ErrArg},
		{"a heat below 0", bare(), []api.Spot{a}, []int{-1}, false, api.ErrArg},
		{"a heat too great", bare(), []api.Spot{a}, []int{api.MaxHeat + 1}, false, api.ErrArg},
		{"the greatest heat", bare(), []api.Spot{a}, []int{api.MaxHeat}, true, api.OK},
		{"a number too great", bare(), []api.Spot{a, b}, []int{math.MaxInt, math.MinInt}, false, api.ErrArg},
		{"a heat ahead of a clash", broken(), []api.Spot{a}, []int{-1}, false, api.ErrArg},
		{"too few ahead of a clash", broken(), []api.Spot{a}, nil, false, api.ErrArg},
		{"a clash", broken(), []api.Spot{a}, []int{800}, false, api.ErrClash},
		{"a clash with nothing", broken(), nil, nil, false, api.ErrClash},
		{"as many spots as can be", bare(), long[1:], make([]int, api.MaxSpots), true, api.OK},
		{"too many spots", bare(), long, make([]int, api.MaxSpots+1), false, api.ErrLimit},
		{"too many spots ahead of no heats", bare(), long, nil, false, api.ErrLimit},
		{"the fire first", wrong(), []api.Spot{{Foot: -1}}, nil, false, api.ErrLimit},
	} {
		if ok, e := fire.Fits(x.f, x.l, x.heats); ok != x.ok || e != x.want {
			t.Error("P2.5:", x.name, ok, e)
		}
	}
}

// TestRests: without a look that the ends rest on, and without no other, they are others.
func TestRests(t *testing.T) {
	many(t, 25, func(t *testing.T, r *rand.Rand, f api.Fire, path []api.Spot, s fields) {
		at := path[0]
		l, e := fire.Rests(f, at)
		if len(s.all) == 0 {
			if e != api.ErrClash || l != nil {
				t.Fatal("P2.6:", l, e)
			}
			return
		}
		var want []int
		for _, x := range f.Looks {
			if fieldsOf(less(f, x.ID), at).ends(at) != s.ends(at) {
				want = append(want, x.ID)
			}
		}
		slices.Sort(want)
		if e != api.OK || !slices.Equal(l, want) {
			t.Fatal("P2.6, P2.13:", at, l, e, want)
		}
	})
}

func TestRestsOfExample(t *testing.T) {
	same := plus(bare(), api.Look{ID: 9, Heat: span(5, 7)}, api.Look{ID: 3, Heat: span(5, 7)})
	apart := plus(bare(), api.Look{ID: 9, Heat: span(5, 9)}, api.Look{ID: 3, Heat: span(4, 7)})
	for _, x := range []struct {
		name string
		f    api.Fire
		at   api.Spot
		l    []int
		want api.Errno
	}{
		{"the low end by 3, the high one by 2 and 3", example(), spot(10, 15), []int{3}, api.OK},
		{"the low end by 1 and 3, the high one by 2", example(), spot(10, 10), []int{2}, api.OK},
		{"the high end by 2", example(), spot(50, 5), []int{2}, api.OK},
		{"far away", example(), spot(10, 1000), nil, api.OK},
		{"no looks", bare(), spot(0, 0), nil, api.OK},
		{"two that say the same", same, spot(0, 0), nil, api.OK},
		{"an end by each", apart, spot(0, 0), []int{3, 9}, api.OK},
		{"a clash", broken(), spot(0, 0), nil, api.ErrClash},
		{"the fire first", wrong(), spot(-1, 0), nil, api.ErrLimit},
	} {
		if l, e := fire.Rests(x.f, x.at); !slices.Equal(l, x.l) || e != x.want {
			t.Error("P2.6:", x.name, l, e)
		}
	}
}

// TestSpotErrors: the fire, then a list that is too long, then wrong spots, then looks that do not agree.
func TestSpotErrors(t *testing.T) {
	calls := map[string]func(f api.Fire, at api.Spot) api.Errno{
		"Ends":      func(f api.Fire, at api.Spot) api.Errno { _, e := fire.Ends(f, at); return e },
		"CheckEnds": func(f api.Fire, at api.Spot) api.Errno { return fire.CheckEnds(f, at, api.Bounds{Low: 99}) },
		"Rests":     func(f api.Fire, at api.Spot) api.Errno { _, e := fire.Rests(f, at); return e },
		"Coolest":   func(f api.Fire, at api.Spot) api.Errno { _, e := fire.Coolest(f, []api.Spot{{}, at}); return e },
		"Hottest":   func(f api.Fire, at api.Spot) api.Errno { _, e := fire.Hottest(f, []api.Spot{{}, at}); return e },
		"Fits":      func(f api.Fire, at api.Spot) api.Errno { _, e := fire.Fits(f, []api.Spot{at}, []int{9}); return e },
		"Needed at": func(f api.Fire, at api.Spot) api.Errno { _, _, e := fire.Needed(f, api.Spot{}, at, 5); return e },
		"Needed of": func(f api.Fire, at api.Spot) api.Errno { _, _, e := fire.Needed(f, at, api.Spot{}, 5); return e },
		"Decides":   func(f api.Fire, at api.Spot) api.Errno { _, e := fire.Decides(f, nil, at, 5); return e },
		"Decides l": func(f api.Fire, at api.Spot) api.Errno {
			_, e := fire.Decides(f, []api.Spot{{}, at}, api.Spot{}, 5)
			return e
		},
		"Would": func(f api.Fire, at api.Spot) api.Errno {
			_, e := fire.Would(f, api.Look{ID: 99, Heat: span(0, api.MaxHeat)}, at)
			return e
		},
	}
	for name, call := range calls {
		for _, at := range []api.Spot{spot(-1, 0), spot(api.MaxFeet+1, 0), spot(0, -1), spot(0, api.MaxHour+1), spot(math.MinInt, math.MaxInt)} {
			if e := call(example(), at); e != api.ErrArg {
				t.Error(name, "a wrong spot:", at, e)
			}
			if e := call(broken(), at); e != api.ErrArg {
				t.Error(name, "a wrong spot ahead of a clash:", at, e)
			}
			if e := call(wrong(), at); e != api.ErrLimit {
				t.Error(name, "the fire first:", at, e)
			}
		}
		for _, at := range []api.Spot{spot(0, 0), spot(api.MaxFeet, api.MaxHour)} {
			if e := call(broken(), at); e != api.ErrClash {
				t.Error(name, "a clash:", at, e)
			}
		}
	}
	for name, call := range map[string]func(l []api.Spot) api.Errno{
		"Coolest": func(l []api.Spot) api.Errno { _, e := fire.Coolest(bare(), l); return e },
		"Hottest": func(l []api.Spot) api.Errno { _, e := fire.Hottest(bare(), l); return e },
		"Fits":    func(l []api.Spot) api.Errno { _, e := fire.Fits(bare(), l, make([]int, len(l))); return e },
		"Decides": func(l []api.Spot) api.Errno { _, e := fire.Decides(bare(), l, api.Spot{}, 5); return e },
	} {
		l := make([]api.Spot, api.MaxSpots+1)
		if e := call(l[1:]); e != api.OK {
			t.Error(name, "as many spots as can be:", e)
		}
		l[0].Foot = -1
		if e := call(l); e != api.ErrLimit {
			t.Error(name, "ErrLimit ahead of a wrong spot:", e)
		}
		if e := call(nil); e != api.OK {
			t.Error(name, "no spots:", e)
		}
	}
}

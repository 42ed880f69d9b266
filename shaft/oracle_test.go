package shaft_test

import (
	"math/rand/v2"
	"slices"
	"testing"

	"calx/api"
	"calx/shaft"
)

// example is the kiln of the chapter's examples.
func example() api.Kiln {
	return api.Kiln{
		Room: 100, PerFoot: 10,
		Loads: []api.Load{
			{ID: 1, Hour: 0, Weight: api.Span{Lo: 20, Hi: 30}},
			{ID: 2, Hour: 2, Weight: api.Span{Lo: 10, Hi: 15}},
			{ID: 3, Hour: 5, Weight: api.Span{Lo: 20, Hi: 40}},
		},
		Draws: []api.Draw{
			{ID: 11, Hour: 4, Weight: api.Span{Lo: 15, Hi: 18}},
			{ID: 12, Hour: 8, Weight: api.Span{Lo: 20, Hi: 25}},
		},
		Weighs: []api.Weigh{
			{ID: 21, Kind: api.WgLoads, From: 1, To: 2, Sum: api.Span{Lo: 36, Hi: 40}},
			{ID: 22, Kind: api.WgHeld, From: 6, Sum: api.Span{Lo: 50, Hi: 55}},
		},
	}
}

// broken is the example with a weighing that contradicts the first load.
func broken() api.Kiln {
	k := example()
	k.Weighs = append(k.Weighs, api.Weigh{ID: 23, Kind: api.WgLoads, From: 1, To: 1, Sum: api.Span{Lo: 31, Hi: 33}})
	return k
}

// wrong is the example with an error that Check finds.
func wrong() api.Kiln {
	k := example()
	k.PerFoot = 0
	return k
}

// empty is a kiln in which nothing was done.
func empty() api.Kiln { return api.Kiln{Room: 5, PerFoot: 2} }

func indexOf[T any](l []T, is func(T) bool) int { return slices.IndexFunc(l, is) }

func sum(l []int) int {
	s := 0
	for _, x := range l {
		s += x
	}
	return s
}

func charged(k api.Kiln, t api.Truth, hour int) int {
	s := 0
	for i, l := range k.Loads {
		if l.Hour <= hour {
			s += t.Loads[i]
		}
	}
	return s
}

func drawn(k api.Kiln, t api.Truth, hour int) int {
	s := 0
	for i, d := range k.Draws {
		if d.Hour <= hour {
			s += t.Draws[i]
		}
	}
	return s
}

func inside(x int, s api.Span) bool { return s.Lo <= x && x <= s.Hi }

// weighedBy is what a weighing should have shown by weights.
func weighedBy(k api.Kiln, w api.Weigh, t api.Truth) int {
	load := func(id int) int { return indexOf(k.Loads, func(l api.Load) bool { return l.ID == id }) }
	draw := func(id int) int { return indexOf(k.Draws, func(d api.Draw) bool { return d.ID == id }) }
	switch w.Kind {
	case api.WgLoads:
		return sum(t.Loads[load(w.From) : load(w.To)+1])
	case api.WgDraws:
		return sum(t.Draws[draw(w.From) : draw(w.To)+1])
	}
	return charged(k, t, w.From) - drawn(k, t, w.From)
}

// isTrue reports whether weights are true, in words of the kiln rather than of its ties.
func isTrue(k api.Kiln, t api.Truth) bool {
	for i, l := range k.Loads {
		before := charged(k, t, l.Hour-1) - drawn(k, t, l.Hour-1)
		for j := range i {
			if k.Loads[j].Hour == l.Hour {
				before += t.Loads[j]
			}
		}
		if !inside(t.Loads[i], l.Weight) || before+t.Loads[i] > k.Room {
			return false
		}
	}
	for i, d := range k.Draws {
		if !inside(t.Draws[i], d.Weight) || sum(t.Draws[:i+1]) > charged(k, t, d.Hour) {
			return false
		}
	}
	for _, w := range k.Weighs {
		if !inside(weighedBy(k, w, t), w.Sum) {
			return false
		}
	}
	return true
}

// tuples returns all lists of numbers within spans.
func tuples(spans []api.Span) [][]int {
	all := [][]int{{}}
	for _, s := range spans {
		var next [][]int
		for _, l := range all {
			for x := s.Lo; x <= s.Hi; x++ {
				next = append(next, append(slices.Clone(l), x))
			}
		}
		all = next
	}
	return all
}

// truths returns all weights that are true.
func truths(k api.Kiln) []api.Truth {
	var spans []api.Span
	for _, l := range k.Loads {
		spans = append(spans, l.Weight)
	}
	for _, d := range k.Draws {
		spans = append(spans, d.Weight)
	}
	var all []api.Truth
	for _, l := range tuples(spans) {
		t := api.Truth{Loads: l[:len(k.Loads)], Draws: l[len(k.Loads):]}
		if isTrue(k, t) {
			all = append(all, t)
		}
	}
	return all
}

// height is that of a mark by weights.
func height(k api.Kiln, t api.Truth, mark int) int {
	if mark <= len(k.Loads) {
		return sum(t.Loads[:mark])
	}
	return sum(t.Draws[:mark-len(k.Loads)])
}

// takes is what the draw at an index takes of the load at another one.
func takes(t api.Truth, draw, load int) int {
	a, c := sum(t.Loads[:load]), sum(t.Draws[:draw])
	b, d := a+t.Loads[load], c+t.Draws[draw]
	return max(0, min(b, d)-max(a, c))
}

// among returns the least and the greatest of a number over weights, and whether it is each one between them, too.
func among(all []api.Truth, of func(api.Truth) int) (api.Span, bool) {
	seen := map[int]bool{}
	s := api.Span{Lo: of(all[0]), Hi: of(all[0])}
	for _, t := range all {
		x := of(t)
		seen[x] = true
		s.Lo, s.Hi = min(s.Lo, x), max(s.Hi, x)
	}
	return s, len(seen) == s.Hi-s.Lo+1
}

// chance is a kiln of a few light things, made of chosen weights so that it often, but not always, has true ones.
func chance(r *rand.Rand) api.Kiln {
	k := api.Kiln{Room: 3 + r.IntN(8), PerFoot: 1 + r.IntN(4)}
	ids := r.Perm(40)
	next := func() int { ids = ids[1:]; return ids[0] + 1 }
	span := func(x, wide int) api.Span { return api.Span{Lo: max(0, x-r.IntN(wide)), Hi: x + r.IntN(wide)} }
	var t api.Truth
	hour := 0
	for range r.IntN(4) {
		hour += r.IntN(3)
		t.Loads = append(t.Loads, r.IntN(6))
		k.Loads = append(k.Loads, api.Load{ID: next(), Hour: hour, Weight: span(t.Loads[len(t.Loads)-1], 3)})
	}
	hour = r.IntN(2)
	for range r.IntN(4) {
		hour += r.IntN(3)
		t.Draws = append(t.Draws, r.IntN(4))
		k.Draws = append(k.Draws, api.Draw{ID: next(), Hour: hour, Weight: span(t.Draws[len(t.Draws)-1], 3)})
	}
	for range r.IntN(4) {
		k.Weighs = append(k.Weighs, weighing(r, k, t, next()))
	}
	return k
}

// weighing is a weighing of a kiln that weights keep, with a few exceptions.
func weighing(r *rand.Rand, k api.Kiln, t api.Truth, id int) api.Weigh {
	w := api.Weigh{ID: id, Kind: api.WgHeld, From: r.IntN(8)}
	switch kind := 1 + r.IntN(3); {
	case kind == api.WgLoads && len(k.Loads) > 0:
		a := r.IntN(len(k.Loads))
		w.Kind, w.From, w.To = kind, k.Loads[a].ID, k.Loads[a+r.IntN(len(k.Loads)-a)].ID
	case kind == api.WgDraws && len(k.Draws) > 0:
		a := r.IntN(len(k.Draws))
		w.Kind, w.From, w.To = kind, k.Draws[a].ID, k.Draws[a+r.IntN(len(k.Draws)-a)].ID
	}
	x := max(0, weighedBy(k, w, t))
	if r.IntN(8) == 0 {
		x++
	}
	w.Sum = api.Span{Lo: max(0, x-r.IntN(2)), Hi: x + r.IntN(2)}
	return w
}

// many calls a test with many kilns, and with all weights that are true for each of them.
func many(t *testing.T, seed uint64, test func(t *testing.T, k api.Kiln, all []api.Truth)) {
	t.Helper()
	r := rand.New(rand.NewPCG(seed, 1))
	good, bad := 0, 0
	for i := range 700 {
		k := chance(r)
		if e := shaft.Check(k); e != api.OK {
			t.Fatal("P1.1: a right kiln:", e, k)
		}
		all := truths(k)
		if len(all) > 0 {
			good++
		} else {
			bad++
		}
		test(t, k, all)
		if t.Failed() {
			t.Fatalf("kiln %d: %+v", i, k)
		}
	}
	if good < 100 || bad < 50 {
		t.Error("too few kilns of a sort:", good, bad)
	}
}

// great is a kiln with as much as the limits allow, and weights that are true for it.
func great(seed uint64) (api.Kiln, api.Truth) {
	r := rand.New(rand.NewPCG(seed, 2))
	k := api.Kiln{Room: api.MaxRoom, PerFoot: api.MaxPerFoot}
	var t api.Truth
	for i := range api.MaxLoads {
		x := api.MaxWeight/2 + r.IntN(api.MaxWeight/4)
		t.Loads = append(t.Loads, x)
		k.Loads = append(k.Loads, api.Load{ID: api.MaxID - i, Hour: 800 * i, Weight: api.Span{Lo: x - r.IntN(x), Hi: x + r.IntN(api.MaxWeight-x+1)}})
	}
	for i := range api.MaxDraws {
		x := api.MaxWeight/4 + r.IntN(api.MaxWeight/4)
		t.Draws = append(t.Draws, x)
		k.Draws = append(k.Draws, api.Draw{ID: 100 + i, Hour: 800*i + 5, Weight: api.Span{Lo: x - r.IntN(x), Hi: x + r.IntN(api.MaxWeight-x+1)}})
	}
	for i := range api.MaxWeighs {
		w := api.Weigh{ID: 200 - i, Kind: api.WgHeld, From: r.IntN(api.MaxHour + 1)}
		a := r.IntN(api.MaxLoads)
		b := a + r.IntN(api.MaxLoads-a)
		switch i % 3 {
		case 0:
			w.Kind, w.From, w.To = api.WgLoads, k.Loads[a].ID, k.Loads[b].ID
		case 1:
			w.Kind, w.From, w.To = api.WgDraws, k.Draws[a].ID, k.Draws[b].ID
		}
		x := weighedBy(k, w, t)
		w.Sum = api.Span{Lo: max(0, x-r.IntN(1000)), Hi: min(api.MaxRoom, x+r.IntN(1000))}
		k.Weighs = append(k.Weighs, w)
	}
	return k, t
}

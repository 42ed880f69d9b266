package cart

import (
	"container/heap"
	"iter"
	"slices"

	"calx/api"
)

// visit is a place to which a journey comes by its last leg, behind the visit ahead of it. The first visit has none ahead.
type visit struct {
	place, hour, toll int
	leg               api.Leg
	ahead             *visit
}

// next returns the visit behind a track that is entered as soon as it can be, from an hour on; or false if it ends too late, or costs too much.
func (v *visit) next(t api.Track, from int) (*visit, bool) {
	hour, ok := enter(t, from)
	if !ok || hour > api.MaxHour-t.Long || v.toll+t.Toll > api.MaxPurse {
		return nil, false
	}
	return &visit{t.To, hour + t.Long, v.toll + t.Toll, api.Leg{Track: t.ID, Hour: hour}, v}, true
}

// journey returns the journey that leads to a visit.
func (v *visit) journey() api.Journey {
	var legs []api.Leg
	for at := v; at.ahead != nil; at = at.ahead {
		legs = append(legs, at.leg)
	}
	slices.Reverse(legs)
	return api.Journey{Legs: legs, Arrival: v.hour, Toll: v.toll}
}

// queue is a heap of visits that wait to be looked at: the earliest come first, and of these the cheapest.
type queue []*visit

func (q queue) Len() int { return len(q) }

func (q queue) Less(i, j int) bool {
	return q[i].hour < q[j].hour || q[i].hour == q[j].hour && q[i].toll < q[j].toll
}

func (q queue) Swap(i, j int) { q[i], q[j] = q[j], q[i] }

func (q *queue) Push(x any) { *q = append(*q, x.(*visit)) }

func (q *queue) Pop() any {
	last := len(*q) - 1
	v := (*q)[last]
	*q = (*q)[:last]
	return v
}

// leaving yields the tracks from a place.
func leaving(r api.Roads, place int) iter.Seq[api.Track] {
	return func(yield func(api.Track) bool) {
		for _, t := range r.Tracks {
			if t.From == place && !yield(t) {
				return
			}
		}
	}
}

// fronts returns, for each place, visits such that each other one of the place is no sooner and no cheaper than one of them; from the earliest, which is the dearest, to the latest. It is enough to go on from these, since whoever comes to a track later ends no sooner.
func fronts(r api.Roads, from, hour int) [][]*visit {
	found := make([][]*visit, r.Places)
	waiting := &queue{{place: from, hour: hour}}
	for waiting.Len() > 0 {
		v := heap.Pop(waiting).(*visit)
		if !v.isCheaper(found[v.place]) {
			continue
		}
		found[v.place] = append(found[v.place], v)
		for t := range leaving(r, v.place) {
			if next, ok := v.next(t, v.hour); ok {
				heap.Push(waiting, next)
			}
		}
	}
	return found
}

// isCheaper reports whether a visit is cheaper than all earlier ones, of which the last one is the cheapest.
func (v *visit) isCheaper(earlier []*visit) bool {
	return len(earlier) == 0 || v.toll < earlier[len(earlier)-1].toll
}

// soonest returns the earliest visit to which a trip can lead, and of these the cheapest; or false if there is none.
func soonest(r api.Roads, x trip) (*visit, bool) {
	paid := func(yield func(*visit) bool) {
		for _, v := range fronts(r, x.from, x.hour)[x.to] {
			if v.toll <= x.purse && !yield(v) {
				return
			}
		}
	}
	return first(paid, func(a, b *visit) bool { return a.hour < b.hour })
}

// first returns the one of some things that no other stands ahead of (the first such one), or false if there are none.
func first[T any](things iter.Seq[T], ahead func(a, b T) bool) (T, bool) {
	var best T
	found := false
	for x := range things {
		if !found || ahead(x, best) {
			best, found = x, true
		}
	}
	return best, found
}

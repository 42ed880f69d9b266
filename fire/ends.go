package fire

import (
	"iter"

	"calx/api"
)

// end is a heat that a spot has at least, or at most, with the look that shows it, or 0 if it needs none.
type end struct{ heat, id int }

// lows yields what a spot has at least by each look. What needs no look comes last, so that a look that shows the same is told.
func (s sight) lows(at api.Spot) iter.Seq[end] {
	return func(yield func(end) bool) {
		for x := range s.looks {
			if !yield(end{x.Heat.Lo - s.slopes.far(at, x.At), x.ID}) {
				return
			}
		}
		yield(end{0, 0})
	}
}

// highs yields what a spot has at most by each look, and at last what needs no look.
func (s sight) highs(at api.Spot) iter.Seq[end] {
	return func(yield func(end) bool) {
		for x := range s.looks {
			if !yield(end{x.Heat.Hi + s.slopes.far(x.At, at), x.ID}) {
				return
			}
		}
		yield(end{api.MaxHeat, 0})
	}
}

// low returns what tells the low end of any spot.
func (s sight) low() func(at api.Spot) end {
	return func(at api.Spot) end {
		e, _ := first(s.lows(at), func(a, b end) bool { return a.heat > b.heat })
		return e
	}
}

// high returns what tells the high end of any spot.
func (s sight) high() func(at api.Spot) end {
	return func(at api.Spot) end {
		e, _ := first(s.highs(at), func(a, b end) bool { return a.heat < b.heat })
		return e
	}
}

// bounds returns the ends of a spot.
func (s sight) bounds(at api.Spot) api.Bounds {
	low, high := s.low()(at), s.high()(at)
	return api.Bounds{Span: api.Span{Lo: low.heat, Hi: high.heat}, Low: low.id, High: high.id}
}

// heats returns the ends of spots that a function tells.
func heats(l []api.Spot, tell func(at api.Spot) end) []int {
	var told []int
	for _, at := range l {
		told = append(told, tell(at).heat)
	}
	return told
}

// Ends returns between which ends the heat of a spot lies.
func Ends(f api.Fire, at api.Spot) (api.Bounds, api.Errno) {
	s, e := known(f, checkSpots(at))
	if e != api.OK {
		return api.Bounds{}, e
	}
	return s.bounds(at), api.OK
}

// CheckEnds returns OK if bounds are those of a spot.
func CheckEnds(f api.Fire, at api.Spot, b api.Bounds) api.Errno {
	s, e := known(f, checkSpots(at))
	if e != api.OK {
		return e
	}
	if b.Span != s.bounds(at).Span || !holds(s.lows(at), end{b.Span.Lo, b.Low}) || !holds(s.highs(at), end{b.Span.Hi, b.High}) {
		return api.ErrProof
	}
	return api.OK
}

// holds reports whether something is one of some things.
func holds[T comparable](things iter.Seq[T], sought T) bool {
	for x := range things {
		if x == sought {
			return true
		}
	}
	return false
}

// Coolest returns the least heats of spots, which are so all at once.
func Coolest(f api.Fire, l []api.Spot) ([]int, api.Errno) {
	s, e := known(f, checkList(l))
	if e != api.OK {
		return nil, e
	}
	return heats(l, s.low()), api.OK
}

// Hottest returns the greatest heats of spots, which are so all at once.
func Hottest(f api.Fire, l []api.Spot) ([]int, api.Errno) {
	s, e := known(f, checkList(l))
	if e != api.OK {
		return nil, e
	}
	return heats(l, s.high()), api.OK
}

// Rests returns the looks without each of which the ends of a spot are others.
func Rests(f api.Fire, at api.Spot) ([]int, api.Errno) {
	s, e := known(f, checkSpots(at))
	if e != api.OK {
		return nil, e
	}
	span := s.bounds(at).Span
	return s.alone(func(other sight) bool { return other.bounds(at).Span != span }), api.OK
}

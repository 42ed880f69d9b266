package pit

import (
	"slices"

	"calx/api"
)

// Cut returns pits with their first steps alone.
func Cut(p api.Pits, steps int) (api.Pits, api.Errno) {
	if e, _ := Check(p); e != api.OK {
		return api.Pits{}, e
	}
	if !isWithin(steps, 0, len(p.Stirs)) {
		return api.Pits{}, api.ErrArg
	}
	return api.Pits{Rooms: slices.Clone(p.Rooms), Stirs: slices.Clone(p.Stirs[:steps])}, api.OK
}

// Swap returns pits with a step and the next one in the other order, and whether all barrows and pits stay the same.
func Swap(p api.Pits, step int) (api.Pits, bool, api.Errno) {
	before, e, _ := behindAll(p)
	if e != api.OK {
		return api.Pits{}, false, e
	}
	if !isWithin(step, 1, len(p.Stirs)-1) {
		return api.Pits{}, false, api.ErrArg
	}
	q := swapped(p, step)
	after, e, _ := behindAll(q)
	if e != api.OK {
		return api.Pits{}, false, e
	}
	return q, before.isLike(after), api.OK
}

// swapped returns pits in which a step and the next one have changed their places, but not their days.
func swapped(p api.Pits, step int) api.Pits {
	q := api.Pits{Rooms: slices.Clone(p.Rooms), Stirs: slices.Clone(p.Stirs)}
	a, b := &q.Stirs[step-1], &q.Stirs[step]
	*a, *b = *b, *a
	a.Day, b.Day = b.Day, a.Day
	return q
}

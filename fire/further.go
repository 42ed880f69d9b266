package fire

import (
	"slices"

	"calx/api"
)

// Would returns the ends of a spot if a further look was taken.
func Would(f api.Fire, x api.Look, at api.Spot) (api.Bounds, api.Errno) {
	if e := Check(f); e != api.OK {
		return api.Bounds{}, e
	}
	if e := checkSpots(at); e != api.OK {
		return api.Bounds{}, e
	}
	f.Looks = slices.Concat(f.Looks, []api.Look{x})
	return Ends(f, at)
}

// Needed returns the least heat that a look at a spot must show, so that another one was surely hot enough.
func Needed(f api.Fire, look, at api.Spot, need int) (int, bool, api.Errno) {
	s, e := known(f, checkSpots(look, at), checkHeats(need))
	if e != api.OK {
		return 0, false, e
	}
	heat, ok := s.needed(look, at, need)
	return heat, ok, api.OK
}

// needed returns the heat from which on that of a spot makes another one hot enough, if there is one between its ends.
func (s sight) needed(look, at api.Spot, need int) (int, bool) {
	if s.low()(at).heat >= need {
		return s.low()(look).heat, true
	}
	// It is above the low end: from there, the other spot would be no hotter than its own low end.
	heat := need + s.slopes.far(at, look)
	if heat > s.high()(look).heat {
		return 0, false
	}
	return heat, true
}

// Decides returns the spots of a list at which a look could make sure, in both ways, whether another one was hot enough.
func Decides(f api.Fire, l []api.Spot, at api.Spot, need int) ([]int, api.Errno) {
	s, e := known(f, checkList(l), checkSpots(at), checkHeats(need))
	if e != api.OK {
		return nil, e
	}
	var indices []int
	for i, look := range l {
		if s.decides(look, at, need) {
			indices = append(indices, i)
		}
	}
	return indices, api.OK
}

// decides reports whether a look at a spot could make another one surely hot enough, or surely not so.
func (s sight) decides(look, at api.Spot, need int) bool {
	low := s.low()(look).heat
	heat, ok := s.needed(look, at, need)
	// What the other spot has at most if the look shows the low end.
	most := min(s.high()(at).heat, low+s.slopes.far(look, at))
	return ok && heat > low && most < need
}

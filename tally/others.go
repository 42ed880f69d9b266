package tally

import (
	"slices"

	"calx/api"
)

// Worse returns a bundle in which a notch of a tally cannot be read any more.
func Worse(b api.Bundle, id, place int) (api.Bundle, api.Errno) {
	x, e := checkTally(b, id)
	if e != api.OK {
		return api.Bundle{}, e
	}
	if !isWithin(place, 0, len(x.Notches)-1) {
		return api.Bundle{}, api.ErrArg
	}
	b = clone(b, map[int]bool{})
	byID(b)[id].Notches[place] = api.WornNotch
	return b, api.OK
}

// Without returns a bundle without some tallies.
func Without(b api.Bundle, ids []int) (api.Bundle, api.Errno) {
	if e := Check(b); e != api.OK {
		return api.Bundle{}, e
	}
	some := map[int]bool{}
	for _, id := range ids {
		some[id] = true
	}
	return clone(b, some), api.OK
}

// clone returns a bundle in new memory, without some tallies.
func clone(b api.Bundle, some map[int]bool) api.Bundle {
	b.Worths = slices.Clone(b.Worths)
	b.Stocks = cloneBut(b.Stocks, some)
	b.Foils = cloneBut(b.Foils, some)
	return b
}

func cloneBut(l []api.Tally, some map[int]bool) []api.Tally {
	var left []api.Tally
	for _, x := range l {
		if !some[x.ID] {
			x.Notches = slices.Clone(x.Notches)
			left = append(left, x)
		}
	}
	return left
}

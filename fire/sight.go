package fire

import (
	"cmp"
	"iter"
	"slices"

	"calx/api"
)

// slopes is by how much the heat of a spot is greater at most: an hour later, an hour earlier, a foot higher, and a foot lower.
type slopes [4]int

func slopesOf(f api.Fire) slopes { return slopes{f.Rise, f.Fall, f.Up, f.Down} }

// far returns how far it is from a spot to another one.
func (s slopes) far(from, to api.Spot) int {
	hours, feet := to.Hour-from.Hour, to.Foot-from.Foot
	steps := [4]int{max(hours, 0), max(-hours, 0), max(feet, 0), max(-feet, 0)}
	sum := 0
	for i, count := range steps {
		sum += count * s[i]
	}
	return sum
}

// sight is what is known of heats. Its looks are in the order of their IDs, so that the first one found is the one to be told.
type sight struct {
	slopes slopes
	looks  iter.Seq[api.Look]
}

// sightOf returns what is known by a fire.
func sightOf(f api.Fire) sight {
	byID := slices.SortedFunc(slices.Values(f.Looks), func(a, b api.Look) int { return cmp.Compare(a.ID, b.ID) })
	return sight{slopesOf(f), slices.Values(byID)}
}

// known returns what is known by a fire whose looks agree. The errors are that of the fire, then the further ones in order, then ErrClash.
func known(f api.Fire, further ...api.Errno) (sight, api.Errno) {
	if e := Check(f); e != api.OK {
		return sight{}, e
	}
	for _, e := range further {
		if e != api.OK {
			return sight{}, e
		}
	}
	s := sightOf(f)
	if !s.agrees() {
		return sight{}, api.ErrClash
	}
	return s, api.OK
}

// but returns what is known without a look.
func (s sight) but(id int) sight {
	return sight{s.slopes, func(yield func(api.Look) bool) {
		for x := range s.looks {
			if x.ID != id && !yield(x) {
				return
			}
		}
	}}
}

// alone returns the IDs of the looks without each of which alone something holds, in increasing order.
func (s sight) alone(holds func(sight) bool) []int {
	var l []int
	for x := range s.looks {
		if holds(s.but(x.ID)) {
			l = append(l, x.ID)
		}
	}
	return l
}

// first returns the one of some things that no other stands ahead of (the first such one), or false if there are none.
func first[T any](things iter.Seq[T], ahead func(a, b T) bool) (T, bool) {
	var best T
	found := false
	for x := range things {
		if !found || ahead(x, best) {
			best, found = x, true
		}
	}
	return best, found
}

package fire

import (
	"slices"

	"calx/api"
)

// Far returns by how much the heat of a spot can be greater than that of another one, at most.
func Far(f api.Fire, from, to api.Spot) (int, api.Errno) {
	if e := Check(f); e != api.OK {
		return 0, e
	}
	if e := checkSpots(from, to); e != api.OK {
		return 0, e
	}
	return slopesOf(f).far(from, to), api.OK
}

// Clash returns two looks that contradict each other.
func Clash(f api.Fire) (int, int, bool, api.Errno) {
	if e := Check(f); e != api.OK {
		return 0, 0, false, e
	}
	a, b, found := sightOf(f).clash()
	return a, b, found, api.OK
}

// CheckClash returns OK if two looks contradict each other.
func CheckClash(f api.Fire, a, b int) api.Errno {
	if e := Check(f); e != api.OK {
		return e
	}
	byID := map[int]api.Look{}
	for _, x := range f.Looks {
		byID[x.ID] = x
	}
	x, ok := byID[a]
	y, both := byID[b]
	if !ok || !both {
		return api.ErrNone
	}
	if !slopesOf(f).contradict(x, y) {
		return api.ErrProof
	}
	return api.OK
}

// contradict reports whether a look shows more than another one allows at its spot.
func (s slopes) contradict(a, b api.Look) bool {
	return b.Heat.Lo > a.Heat.Hi+s.far(a.At, b.At)
}

// clash returns the first two looks that contradict each other, and true; or zeros and false.
func (s sight) clash() (int, int, bool) {
	one, other, found := 0, 0, false
search:
	for a := range s.looks {
		for b := range s.looks {
			if s.slopes.contradict(a, b) {
				one, other, found = a.ID, b.ID, true
				break search
			}
		}
	}
	return one, other, found
}

// agrees reports whether no two looks contradict each other.
func (s sight) agrees() bool {
	_, _, found := s.clash()
	return !found
}

// Suspects returns the looks without each of which all others agree.
func Suspects(f api.Fire) ([]int, api.Errno) {
	if e := Check(f); e != api.OK {
		return nil, e
	}
	s := sightOf(f)
	if s.agrees() {
		return nil, api.OK
	}
	return s.alone(sight.agrees), api.OK
}

// Without returns a fire without some looks.
func Without(f api.Fire, ids []int) (api.Fire, api.Errno) {
	if e := Check(f); e != api.OK {
		return api.Fire{}, e
	}
	f.Looks = slices.DeleteFunc(slices.Clone(f.Looks), func(x api.Look) bool {
		return slices.Contains(ids, x.ID)
	})
	return f, api.OK
}

package fire

import "calx/api"

// Fits reports whether spots can have some heats, all at once.
func Fits(f api.Fire, l []api.Spot, heats []int) (bool, api.Errno) {
	s, e := known(f, checkList(l), checkTold(l, heats))
	if e != api.OK {
		return false, e
	}
	told := map[api.Spot]int{}
	for i, at := range l {
		if heat, twice := told[at]; twice && heat != heats[i] {
			return false, api.OK
		}
		told[at] = heats[i]
	}
	return s.allows(told), api.OK
}

// checkTold returns ErrArg unless there is a heat for each spot.
func checkTold(l []api.Spot, heats []int) api.Errno {
	if len(l) != len(heats) {
		return api.ErrArg
	}
	return checkHeats(heats...)
}

// allows reports whether spots can have the heats that are told of them. It is enough to compare them two by two, and with the ends: looks that showed just these heats would agree then.
func (s sight) allows(told map[api.Spot]int) bool {
	for at, heat := range told {
		ends := s.bounds(at).Span
		if heat < ends.Lo || heat > ends.Hi {
			return false
		}
		for other, most := range told {
			if most > heat+s.slopes.far(at, other) {
				return false
			}
		}
	}
	return true
}

package fire

import (
	"slices"

	"calx/api"
)

// CheckPath returns the first error of a path.
func CheckPath(l []api.Spot) api.Errno {
	if len(l) > api.MaxSteps {
		return api.ErrLimit
	}
	if len(l) == 0 || checkSpots(l...) != api.OK {
		return api.ErrArg
	}
	for i, at := range l[1:] {
		if at.Hour != l[i].Hour+1 {
			return api.ErrArg
		}
	}
	return api.OK
}

// Burnt returns how long something was hot enough on a path, at least and at most.
func Burnt(f api.Fire, path []api.Spot, need int) (api.Burn, api.Burn, api.Errno) {
	s, e := known(f, CheckPath(path), checkHeats(need))
	if e != api.OK {
		return api.Burn{}, api.Burn{}, e
	}
	// A field that is hotter nowhere burns less in each way, and all low ends at once are those of a field; so are the high ones.
	return burn(heats(path, s.low()), need), burn(heats(path, s.high()), need), api.OK
}

// Surely returns the steps of a path in which it was surely hot enough.
func Surely(f api.Fire, path []api.Spot, need int) ([]api.Span, api.Errno) {
	s, e := known(f, CheckPath(path), checkHeats(need))
	if e != api.OK {
		return nil, e
	}
	return rows(heats(path, s.low()), need), api.OK
}

// Possibly returns the steps of a path in which it can have been hot enough.
func Possibly(f api.Fire, path []api.Spot, need int) ([]api.Span, api.Errno) {
	s, e := known(f, CheckPath(path), checkHeats(need))
	if e != api.OK {
		return nil, e
	}
	return rows(heats(path, s.high()), need), api.OK
}

// burn returns how something burnt that had one heat after the other.
func burn(heats []int, need int) api.Burn {
	var b api.Burn
	for _, heat := range heats {
		if heat >= need {
			b.Hours++
			b.Sum += heat - need
		}
	}
	steps := func(r api.Span) int { return r.Hi - r.Lo + 1 }
	longest, found := first(slices.Values(rows(heats, need)), func(a, b api.Span) bool { return steps(a) > steps(b) })
	if found {
		b.Row = steps(longest)
	}
	return b
}

// rows returns the indices of the heats that are at least need, as the fewest spans.
func rows(heats []int, need int) []api.Span {
	var l []api.Span
	for i, heat := range heats {
		if heat < need {
			continue
		}
		if last := len(l) - 1; last >= 0 && l[last].Hi == i-1 {
			l[last].Hi = i
		} else {
			l = append(l, api.Span{Lo: i, Hi: i})
		}
	}
	return l
}

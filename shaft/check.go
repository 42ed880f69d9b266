// Package shaft is layer 1: what lies where in the shaft of a kiln (shared/doc/01-shaft.md).
package shaft

import "calx/api"

// Check returns the first error of a kiln.
func Check(k api.Kiln) api.Errno {
	if k.Room < 0 || k.Room > api.MaxRoom || k.PerFoot < 1 || k.PerFoot > api.MaxPerFoot {
		return api.ErrArg
	}
	if len(k.Loads) > api.MaxLoads || len(k.Draws) > api.MaxDraws || len(k.Weighs) > api.MaxWeighs {
		return api.ErrLimit
	}
	seen := map[int]bool{}
	if e := loads(k).check(seen); e != api.OK {
		return e
	}
	if e := draws(k).check(seen); e != api.OK {
		return e
	}
	return checkWeighs(k, seen)
}

// check returns the first error of the records of a row, and adds their IDs to those that were seen ahead of them.
func (r row[T]) check(seen map[int]bool) api.Errno {
	hour := 0
	for i := range r.list {
		x := r.at(i)
		if !isID(x.ID) || !isHour(x.Hour) || x.Hour < hour || !isSpan(x.Weight, api.MaxWeight) {
			return api.ErrArg
		}
		if seen[x.ID] {
			return api.ErrTwice
		}
		seen[x.ID] = true
		hour = x.Hour
	}
	return api.OK
}

// checkWeighs returns the first error of the weighings of a kiln of which all else is right.
func checkWeighs(k api.Kiln, seen map[int]bool) api.Errno {
	for _, w := range k.Weighs {
		_, right := weighed(k, w)
		if !isID(w.ID) || !isSpan(w.Sum, api.MaxRoom) || !right {
			return api.ErrArg
		}
		if seen[w.ID] {
			return api.ErrTwice
		}
		seen[w.ID] = true
	}
	return api.OK
}

func isID(id int) bool { return 1 <= id && id <= api.MaxID }

func isHour(hour int) bool { return 0 <= hour && hour <= api.MaxHour }

// isSpan reports whether a span is one, and lies within 0 to most.
func isSpan(s api.Span, most int) bool { return 0 <= s.Lo && s.Lo <= s.Hi && s.Hi <= most }

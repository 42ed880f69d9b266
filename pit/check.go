// Package pit is layer 4: what is in pits, parcel by parcel, and in the barrows that are taken out of them (shared/doc/04-pit.md).
package pit

import "calx/api"

// Check returns the first error of pits, and the number of the step.
func Check(p api.Pits) (api.Errno, int) {
	_, e, step := behindAll(p)
	return e, step
}

// behindAll returns how pits stand behind all steps, or their first error, and the number of the step.
func behindAll(p api.Pits) (*stand, api.Errno, int) {
	if !areRooms(p.Rooms) {
		return nil, api.ErrArg, 0
	}
	if len(p.Stirs) > api.MaxStirs {
		return nil, api.ErrLimit, 0
	}
	return follow(p.Rooms, p.Stirs)
}

// behindSome returns how pits stand behind the first steps, if all steps are right.
func behindSome(p api.Pits, pit, steps int) (*stand, api.Errno) {
	if e, _ := Check(p); e != api.OK {
		return nil, e
	}
	if !isWithin(pit, 0, len(p.Rooms)-1) || !isWithin(steps, 0, len(p.Stirs)) {
		return nil, api.ErrArg
	}
	s, e, _ := follow(p.Rooms, p.Stirs[:steps])
	return s, e
}

// behindBarrow returns how pits stand behind all steps, and a barrow.
func behindBarrow(p api.Pits, id int) (*stand, barrow, api.Errno) {
	s, e, _ := behindAll(p)
	if e != api.OK {
		return nil, barrow{}, e
	}
	b, ok := s.barrow(id)
	if !ok {
		return nil, barrow{}, api.ErrNone
	}
	return s, b, api.OK
}

func areRooms(rooms []int) bool {
	for _, room := range rooms {
		if !isWithin(room, 1, api.MaxHold) {
			return false
		}
	}
	return isWithin(len(rooms), 1, api.MaxPits)
}

// isMille reports whether a span is one, and lies within what a grade can be.
func isMille(s api.Span) bool { return 0 <= s.Lo && s.Lo <= s.Hi && s.Hi <= api.MaxMille }

func isWithin(n, lo, hi int) bool { return lo <= n && n <= hi }

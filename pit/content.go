package pit

import (
	"slices"

	"calx/api"
)

// Content returns what is in a pit behind some steps, parcel by parcel.
func Content(p api.Pits, pit, steps int) ([]api.Parcel, api.Errno) {
	s, e := behindSome(p, pit, steps)
	if e != api.OK {
		return nil, e
	}
	var l []api.Parcel
	for _, c := range s.pits[pit] {
		l = append(l, api.Parcel{Amount: c.amount, Parts: s.list(c.parts)})
	}
	return l, api.OK
}

// Free returns how much room a pit has behind some steps.
func Free(p api.Pits, pit, steps int) (int, api.Errno) {
	s, e := behindSome(p, pit, steps)
	if e != api.OK {
		return 0, e
	}
	return s.rooms[pit] - s.held(pit), api.OK
}

// Pours returns the IDs of all pours, in order.
func Pours(p api.Pits) ([]int, api.Errno) {
	s, e, _ := behindAll(p)
	if e != api.OK {
		return nil, e
	}
	return s.pours, api.OK
}

// Barrows returns the IDs of all barrows, in order.
func Barrows(p api.Pits) ([]int, api.Errno) {
	s, e, _ := behindAll(p)
	if e != api.OK {
		return nil, e
	}
	var l []int
	for _, b := range s.barrows {
		l = append(l, b.id)
	}
	return l, api.OK
}

// Barrow returns what is in a barrow.
func Barrow(p api.Pits, id int) ([]api.Part, api.Errno) {
	s, b, e := behindBarrow(p, id)
	if e != api.OK {
		return nil, e
	}
	return s.list(b.parts), api.OK
}

// Share returns which share of a barrow is of a pour.
func Share(p api.Pits, barrow, pour int) (api.Ratio, api.Errno) {
	s, b, e := behindBarrow(p, barrow)
	if e != api.OK {
		return api.Ratio{}, e
	}
	if !s.isPour(pour) {
		return api.Ratio{}, api.ErrNone
	}
	return inRange(times(b.parts.of(pour), 1, b.amount))
}

// Ages returns how many days old the youngest and the oldest part of a barrow is.
func Ages(p api.Pits, barrow int) (api.Span, api.Errno) {
	s, b, e := behindBarrow(p, barrow)
	if e != api.OK {
		return api.Span{}, e
	}
	ages := api.Span{Lo: api.MaxDay}
	for pour := range b.parts {
		age := s.age(b, pour)
		ages = api.Span{Lo: min(ages.Lo, age), Hi: max(ages.Hi, age)}
	}
	return ages, api.OK
}

// Ripe returns which share of a barrow is at least so many days old.
func Ripe(p api.Pits, barrow, days int) (api.Ratio, api.Errno) {
	if e, _ := Check(p); e != api.OK {
		return api.Ratio{}, e
	}
	if !isWithin(days, 0, api.MaxDay) {
		return api.Ratio{}, api.ErrArg
	}
	s, b, e := behindBarrow(p, barrow)
	if e != api.OK {
		return api.Ratio{}, e
	}
	return s.shared(b, func(pour int) int {
		if s.age(b, pour) < days {
			return 0
		}
		return 1
	})
}

// Fate returns where a pour went: how much of it is in which barrow, how much is left in pits, and how much was lost.
func Fate(p api.Pits, pour int) ([]api.Part, api.Ratio, api.Ratio, api.Errno) {
	s, e, _ := behindAll(p)
	if e == api.OK && !s.isPour(pour) {
		e = api.ErrNone
	}
	if e != api.OK {
		return nil, api.Ratio{}, api.Ratio{}, e
	}
	left, isLeft := sum(s.parcels(), isValid, func(c parcel) api.Ratio { return c.parts.of(pour) })
	lost, isLost := sum(slices.Values(s.lost), isValid, func(m mix) api.Ratio { return m.of(pour) })
	if !isLeft || !isLost {
		return nil, api.Ratio{}, api.Ratio{}, api.ErrRange
	}
	return s.went(pour), left, lost, api.OK
}

// went returns how much of a pour is in which barrow.
func (s *stand) went(pour int) []api.Part {
	var l []api.Part
	for _, b := range s.barrows {
		if amount, ok := b.parts[pour]; ok {
			l = append(l, api.Part{Pour: b.id, Amount: amount})
		}
	}
	return l
}

// age returns how many days old a pour was when a barrow was filled.
func (s *stand) age(b barrow, pour int) int { return b.day - s.poured[pour] }

// shared returns the sum of the parts of a barrow, each times a weight of its pour, divided by the barrow's amount.
func (s *stand) shared(b barrow, weight func(pour int) int) (api.Ratio, api.Errno) {
	all, ok := sum(slices.Values(s.pours), isValid, func(pour int) api.Ratio {
		return times(b.parts.of(pour), weight(pour), 1)
	})
	if !ok {
		return api.Ratio{}, api.ErrRange
	}
	return inRange(times(all, 1, b.amount))
}

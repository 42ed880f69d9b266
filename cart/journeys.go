package cart

import (
	"slices"

	"calx/api"
)

// CheckJourney returns the error of a journey.
func CheckJourney(r api.Roads, from, to, hour int, j api.Journey) api.Errno {
	x := trip{from: from, to: to, hour: hour}
	if e := checkTrip(r, x); e != api.OK {
		return e
	}
	if !isJourney(r, x, j) {
		return api.ErrProof
	}
	return api.OK
}

// isJourney reports whether a journey is one of a trip, with any pence.
func isJourney(r api.Roads, x trip, j api.Journey) bool {
	tracks := map[int]api.Track{}
	for _, t := range r.Tracks {
		tracks[t.ID] = t
	}
	at := &visit{place: x.from, hour: x.hour}
	for _, leg := range j.Legs {
		t, ok := tracks[leg.Track]
		if !ok || t.From != at.place || leg.Hour < at.hour {
			return false
		}
		next, ok := at.next(t, leg.Hour)
		if !ok || next.leg != leg {
			return false
		}
		at = next
	}
	return at.place == x.to && at.hour == j.Arrival && at.toll == j.Toll
}

// Front returns all journeys to a place than which no other one is both sooner and cheaper.
func Front(r api.Roads, from, to, hour int) ([]api.Journey, api.Errno) {
	if e := checkTrip(r, trip{from: from, to: to, hour: hour}); e != api.OK {
		return nil, e
	}
	var l []api.Journey
	for _, v := range fronts(r, from, hour)[to] {
		l = append(l, v.journey())
	}
	// The earliest visits come first, and these are the dearest.
	slices.Reverse(l)
	return l, api.OK
}

// CheckFront returns OK if journeys are a front, as times show.
func CheckFront(r api.Roads, from, to, hour int, l []api.Journey, t api.Times) api.Errno {
	x := trip{from: from, to: to, hour: hour}
	if e := checkTrip(r, x); e != api.OK {
		return e
	}
	if CheckTimes(r, from, hour, t) != api.OK {
		return api.ErrProof
	}
	h := noHours()
	for i, j := range l {
		if !isJourney(r, x, j) || i > 0 && (j.Toll <= l[i-1].Toll || j.Arrival >= l[i-1].Arrival) {
			return api.ErrProof
		}
		h.note(j.Arrival, j.Toll)
	}
	if h != hoursOf(t.Hours[to]) {
		return api.ErrProof
	}
	return api.OK
}

// Best returns the earliest journey to a place with so many pence.
func Best(r api.Roads, from, to, hour, purse int) (api.Journey, api.Errno) {
	x := trip{from, to, hour, purse}
	if e := checkTrip(r, x); e != api.OK {
		return api.Journey{}, e
	}
	v, ok := soonest(r, x)
	if !ok {
		return api.Journey{}, api.ErrNone
	}
	return v.journey(), api.OK
}

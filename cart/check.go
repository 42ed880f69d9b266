// Package cart is layer 5: journeys over tracks that are closed at hours and cost tolls, and orders that are served by carts (shared/doc/05-cart.md).
package cart

import "calx/api"

// Check returns the first error of roads.
func Check(r api.Roads) api.Errno {
	if !isWithin(r.Places, 1, api.MaxPlaces) {
		return api.ErrArg
	}
	if len(r.Tracks) > api.MaxTracks {
		return api.ErrLimit
	}
	seen := map[int]bool{}
	for _, t := range r.Tracks {
		if !isTrack(r, t) {
			return api.ErrArg
		}
		if seen[t.ID] {
			return api.ErrTwice
		}
		seen[t.ID] = true
	}
	return api.OK
}

// Enter returns the first hour from one on in which a track can be entered.
func Enter(t api.Track, hour int) (int, api.Errno) {
	if !isClosed(t.Closed) || !isHour(hour) {
		return 0, api.ErrArg
	}
	open, ok := enter(t, hour)
	if !ok {
		return 0, api.ErrNone
	}
	return open, api.OK
}

// enter returns the first hour from one on in which a right track can be entered, or false if there is none.
func enter(t api.Track, hour int) (int, bool) {
	for _, s := range t.Closed {
		if isWithin(hour, s.Lo, s.Hi) {
			hour = s.Hi + 1
		}
	}
	if hour > api.MaxHour {
		return 0, false
	}
	return hour, true
}

// trip is where one goes from and to, from which hour on, and with how many pence.
type trip struct{ from, to, hour, purse int }

// checkTrip returns the error of roads, or ErrArg unless a trip is right for them.
func checkTrip(r api.Roads, x trip) api.Errno {
	if e := Check(r); e != api.OK {
		return e
	}
	if !isPlace(r, x.from) || !isPlace(r, x.to) || !isHour(x.hour) || !isWithin(x.purse, 0, api.MaxPurse) {
		return api.ErrArg
	}
	return api.OK
}

func isTrack(r api.Roads, t api.Track) bool {
	return isID(t.ID) && isPlace(r, t.From) && isPlace(r, t.To) && t.From != t.To &&
		isWithin(t.Long, 1, api.MaxLong) && isWithin(t.Toll, 0, api.MaxToll) && isClosed(t.Closed)
}

// isClosed reports whether a track can be closed in some spans: there is an open hour between each two of them.
func isClosed(l []api.Span) bool {
	if len(l) > api.MaxClosed {
		return false
	}
	for i, s := range l {
		if !isHours(s) || i > 0 && s.Lo < l[i-1].Hi+2 {
			return false
		}
	}
	return true
}

func isPlace(r api.Roads, place int) bool { return isWithin(place, 0, r.Places-1) }

func isHour(hour int) bool { return isWithin(hour, 0, api.MaxHour) }

// isHours reports whether a span is one of hours.
func isHours(s api.Span) bool { return 0 <= s.Lo && s.Lo <= s.Hi && s.Hi <= api.MaxHour }

func isID(id int) bool { return isWithin(id, 1, api.MaxID) }

func isWithin(n, least, most int) bool { return least <= n && n <= most }

package cart

import (
	"slices"
	"sort"

	"calx/api"
)

// Latest returns the latest hour in which one can begin, to be at a place by an hour with so many pence.
func Latest(r api.Roads, from, to, by, purse int) (int, api.Errno) {
	if e := checkTrip(r, trip{from, to, by, purse}); e != api.OK {
		return 0, e
	}
	// Whoever begins later arrives no sooner, so that the hours that are early enough come first.
	late := sort.Search(by+1, func(hour int) bool {
		v, ok := soonest(r, trip{from, to, hour, purse})
		return !ok || v.hour > by
	})
	if late == 0 {
		return 0, api.ErrNone
	}
	return late - 1, api.OK
}

// Needed returns the tracks without each of which a place is reached later, or not at all.
func Needed(r api.Roads, from, to, hour, purse int) ([]int, api.Errno) {
	x := trip{from, to, hour, purse}
	if e := checkTrip(r, x); e != api.OK {
		return nil, e
	}
	best, ok := soonest(r, x)
	if !ok {
		return nil, api.ErrNone
	}
	var ids []int
	for i, t := range r.Tracks {
		if v, ok := soonest(roadsBut(r, i), x); !ok || v.hour != best.hour {
			ids = append(ids, t.ID)
		}
	}
	slices.Sort(ids)
	return ids, api.OK
}

// roadsBut returns roads without the track at an index.
func roadsBut(r api.Roads, i int) api.Roads {
	return api.Roads{Places: r.Places, Tracks: but(r.Tracks, i)}
}

// but returns a list without the element at an index.
func but[T any](l []T, i int) []T { return slices.Concat(l[:i], l[i+1:]) }

// Shut returns roads in which a track is closed in further hours.
func Shut(r api.Roads, track int, s api.Span) (api.Roads, api.Errno) {
	if e := Check(r); e != api.OK {
		return api.Roads{}, e
	}
	at := slices.IndexFunc(r.Tracks, func(t api.Track) bool { return t.ID == track })
	if at < 0 {
		return api.Roads{}, api.ErrNone
	}
	if !isHours(s) {
		return api.Roads{}, api.ErrArg
	}
	closed := join(r.Tracks[at].Closed, s)
	if len(closed) > api.MaxClosed {
		return api.Roads{}, api.ErrLimit
	}
	tracks := slices.Clone(r.Tracks)
	for i, t := range tracks {
		tracks[i].Closed = slices.Clone(t.Closed)
	}
	tracks[at].Closed = closed
	return api.Roads{Places: r.Places, Tracks: tracks}, api.OK
}

// join returns spans, which are in order, with a further one: one span with all of them that it meets or touches.
func join(l []api.Span, s api.Span) []api.Span {
	var ahead, behind []api.Span
	for _, x := range l {
		switch {
		case x.Hi+1 < s.Lo:
			ahead = append(ahead, x)
		case x.Lo > s.Hi+1:
			behind = append(behind, x)
		default:
			s = api.Span{Lo: min(s.Lo, x.Lo), Hi: max(s.Hi, x.Hi)}
		}
	}
	return slices.Concat(ahead, []api.Span{s}, behind)
}

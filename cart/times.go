package cart

import (
	"slices"

	"calx/api"
)

// none stands for the hour of no arrival.
const none = -1

// hours is, for each sum of tolls, the earliest hour of arrival that costs no more.
type hours [api.MaxPurse + 1]int

func noHours() hours {
	var h hours
	for sum := range h {
		h[sum] = none
	}
	return h
}

// hoursOf returns the hours of a list of as many as there are sums.
func hoursOf(l []int) hours {
	var h hours
	copy(h[:], l)
	return h
}

// note makes hours no later than an arrival, from its toll on.
func (h *hours) note(hour, toll int) {
	for sum := toll; sum < len(h); sum++ {
		if h[sum] == none || h[sum] > hour {
			h[sum] = hour
		}
	}
}

// Earliest returns the earliest hours of arrival at all places, by tolls.
func Earliest(r api.Roads, from, hour int) (api.Times, api.Errno) {
	if e := checkTrip(r, trip{from: from, hour: hour}); e != api.OK {
		return api.Times{}, e
	}
	var t api.Times
	for _, front := range fronts(r, from, hour) {
		h := noHours()
		for _, v := range front {
			h.note(v.hour, v.toll)
		}
		t.Hours = append(t.Hours, h[:])
	}
	return t, api.OK
}

// CheckTimes returns OK if no journey is sooner than some times say.
func CheckTimes(r api.Roads, from, hour int, t api.Times) api.Errno {
	if e := checkTrip(r, trip{from: from, hour: hour}); e != api.OK {
		return e
	}
	if len(t.Hours) != r.Places || slices.ContainsFunc(t.Hours, areNoHours) {
		return api.ErrProof
	}
	all := tableOf(t)
	isLate := func(x int) bool { return x == none || x > hour }
	if slices.ContainsFunc(t.Hours[from], isLate) || slices.ContainsFunc(r.Tracks, all.isBroken) {
		return api.ErrProof
	}
	return api.OK
}

// areNoHours reports whether a list cannot be that of a place: with more pence nobody comes later.
func areNoHours(l []int) bool {
	if len(l) != api.MaxPurse+1 {
		return true
	}
	for i, x := range l {
		if !isWithin(x, none, api.MaxHour) || i > 0 && l[i-1] != none && (x == none || x > l[i-1]) {
			return true
		}
	}
	return false
}

// table is the hours of all places.
type table []hours

// tableOf returns the table of times that have a list for each sum of tolls.
func tableOf(t api.Times) table {
	var all table
	for _, l := range t.Hours {
		all = append(all, hoursOf(l))
	}
	return all
}

// isBroken reports whether one who is at the beginning of a track as early as a table says comes to its end sooner than it says.
func (all table) isBroken(t api.Track) bool {
	for sum, hour := range all[t.From] {
		if hour == none {
			continue
		}
		at := &visit{place: t.From, hour: hour, toll: sum}
		end, ok := at.next(t, hour)
		if !ok {
			continue
		}
		if told := all[t.To][end.toll]; told == none || told > end.hour {
			return true
		}
	}
	return false
}

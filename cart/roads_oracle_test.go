package cart_test

import (
	"math/rand/v2"
	"slices"
	"testing"

	"calx/api"
	"calx/cart"
)

func span(lo, hi int) api.Span { return api.Span{Lo: lo, Hi: hi} }

func track(id, from, to, long, toll int, closed ...api.Span) api.Track {
	return api.Track{ID: id, From: from, To: to, Long: long, Toll: toll, Closed: closed}
}

func roads(places int, tracks ...api.Track) api.Roads {
	return api.Roads{Places: places, Tracks: tracks}
}

// exampleRoads is the roads of the chapter's examples.
func exampleRoads() api.Roads {
	return roads(3, track(1, 0, 1, 5, 0), track(2, 1, 2, 5, 0, span(8, 20)), track(3, 0, 2, 9, 6), track(4, 1, 2, 8, 2))
}

// with is roads with further tracks.
func with(r api.Roads, more ...api.Track) api.Roads {
	return roads(r.Places, slices.Concat(r.Tracks, more)...)
}

// without is roads without a track.
func without(r api.Roads, id int) api.Roads {
	var l []api.Track
	for _, t := range r.Tracks {
		if t.ID != id {
			l = append(l, t)
		}
	}
	return roads(r.Places, l...)
}

func cloneRoads(r api.Roads) api.Roads {
	l := slices.Clone(r.Tracks)
	for i := range l {
		l[i].Closed = slices.Clone(l[i].Closed)
	}
	return roads(r.Places, l...)
}

func equalRoads(a, b api.Roads) bool {
	return a.Places == b.Places && slices.EqualFunc(a.Tracks, b.Tracks, equalTracks)
}

func equalTracks(a, b api.Track) bool {
	return a.ID == b.ID && a.From == b.From && a.To == b.To && a.Long == b.Long && a.Toll == b.Toll && slices.Equal(a.Closed, b.Closed)
}

func cloneTimes(t api.Times) api.Times {
	var l [][]int
	for _, x := range t.Hours {
		l = append(l, slices.Clone(x))
	}
	return api.Times{Hours: l}
}

// journey is one of legs, told as tracks and hours in turn.
func journey(arrival, toll int, legs ...int) api.Journey {
	j := api.Journey{Arrival: arrival, Toll: toll}
	for i := 0; i < len(legs); i += 2 {
		j.Legs = append(j.Legs, api.Leg{Track: legs[i], Hour: legs[i+1]})
	}
	return j
}

func equalJourneys(a, b api.Journey) bool {
	return slices.Equal(a.Legs, b.Legs) && a.Arrival == b.Arrival && a.Toll == b.Toll
}

func isShut(t api.Track, hour int) bool {
	return slices.ContainsFunc(t.Closed, func(s api.Span) bool { return s.Lo <= hour && hour <= s.Hi })
}

// chart is, for each place and each hour, with which sums of tolls one can be there, a bit for each sum. It is drawn hour by hour, and does not mind what is sooner or cheaper.
type chart struct {
	begin int
	at    [][]uint64
}

func chartOf(r api.Roads, from, hour int) chart { return chartUntil(r, from, hour, api.MaxHour) }

// chartUntil is a chart of the hours up to one.
func chartUntil(r api.Roads, from, hour, until int) chart {
	c := chart{hour, make([][]uint64, r.Places)}
	for place := range c.at {
		c.at[place] = make([]uint64, until+1)
	}
	if hour > until {
		return c
	}
	c.at[from][hour] = 1
	for h := hour; h <= until; h++ {
		if h > hour {
			for place := range c.at {
				c.at[place][h] |= c.at[place][h-1]
			}
		}
		for _, t := range r.Tracks {
			if !isShut(t, h) && h+t.Long <= until {
				c.at[t.To][h+t.Long] |= c.at[t.From][h] << t.Toll & (1<<(api.MaxPurse+1) - 1)
			}
		}
	}
	return c
}

// earliest is the first hour in which one can be at a place with so many pence, or -1.
func (c chart) earliest(place, purse int) int {
	l := c.at[place]
	i, _ := slices.BinarySearchFunc(l, 1, func(sums uint64, _ int) int {
		if sums&(1<<(purse+1)-1) == 0 {
			return -1
		}
		return 0
	})
	if i == len(l) {
		return -1
	}
	return i
}

// front is the tolls and arrivals of a front, as pairs.
func (c chart) front(place int) [][2]int {
	var l [][2]int
	last := -1
	for sum := 0; sum <= api.MaxPurse; sum++ {
		if x := c.earliest(place, sum); x != last {
			l = append(l, [2]int{sum, x})
			last = x
		}
	}
	return l
}

func pairs(l []api.Journey) [][2]int {
	var p [][2]int
	for _, j := range l {
		p = append(p, [2]int{j.Toll, j.Arrival})
	}
	return p
}

// leads is whether a journey is one, as the chapter tells it.
func leads(r api.Roads, from, to, hour int, j api.Journey) bool {
	place, toll := from, 0
	for _, leg := range j.Legs {
		i := slices.IndexFunc(r.Tracks, func(t api.Track) bool { return t.ID == leg.Track })
		if i < 0 || r.Tracks[i].From != place || leg.Hour < hour || leg.Hour > api.MaxHour || isShut(r.Tracks[i], leg.Hour) {
			return false
		}
		place, hour, toll = r.Tracks[i].To, leg.Hour+r.Tracks[i].Long, toll+r.Tracks[i].Toll
	}
	return place == to && j.Arrival == hour && hour <= api.MaxHour && j.Toll == toll && toll <= api.MaxPurse
}

// closings is some spans from an hour on, as a track may have them.
func closings(r *rand.Rand, hour int) []api.Span {
	var l []api.Span
	for range r.IntN(api.MaxClosed + 1) {
		lo := hour + r.IntN(9)
		hi := lo + r.IntN(9)
		if hi > api.MaxHour {
			break
		}
		l = append(l, span(lo, hi))
		hour = hi + 2
	}
	return l
}

// trip is roads, and what one asks of them.
type trip struct {
	roads                 api.Roads
	from, to, hour, purse int
}

// chance is roads with few places and tracks that are short, open at times, and near each other in their hours and tolls; what is fast is dear, mostly.
func chance(r *rand.Rand) trip {
	base := []int{0, 1000, api.MaxHour - 60}[r.IntN(3)]
	places := 1 + r.IntN(4) + r.IntN(2)
	var l []api.Track
	ids := r.Perm(40)
	dear := []int{4, 20, api.MaxToll}[r.IntN(3)]
	for i := range r.IntN(16) {
		from := r.IntN(places)
		to := r.IntN(places)
		if from == to {
			continue
		}
		long := 1 + r.IntN(9)
		toll := dear * (10 - long) / 9
		switch r.IntN(8) {
		case 0:
			long = 1 + r.IntN(api.MaxLong)
		case 1:
			toll = r.IntN(dear + 1)
		case 2:
			toll = 0
		}
		l = append(l, track(ids[i]+1, from, to, long, toll, closings(r, base)...))
	}
	return trip{roads(places, l...), r.IntN(places), r.IntN(places), base + r.IntN(30), r.IntN(api.MaxPurse + 1)}
}

// many calls a test with many trips, and with charts of them.
func many(t *testing.T, seed uint64, count int, test func(t *testing.T, r *rand.Rand, x trip, c chart)) {
	t.Helper()
	r := rand.New(rand.NewPCG(seed, 5))
	there, not, choice := 0, 0, 0
	for i := range count {
		x := chance(r)
		if e := cart.Check(x.roads); e != api.OK {
			t.Fatal("P5.1: right roads:", e, x)
		}
		c := chartOf(x.roads, x.from, x.hour)
		switch n := len(c.front(x.to)); {
		case n == 0:
			not++
		case n > 1:
			choice++
		default:
			there++
		}
		test(t, r, x, c)
		if t.Failed() {
			t.Fatalf("trip %d: %+v", i, x)
		}
	}
	if min(there, not, choice) < count/12 {
		t.Error("too few trips of a sort:", there, not, choice)
	}
}

// great is roads with as many places and tracks as can be, over the whole season.
func great(seed uint64) trip {
	r := rand.New(rand.NewPCG(seed, 6))
	var l []api.Track
	for i := range api.MaxTracks {
		from := r.IntN(api.MaxPlaces)
		to := (from + 1 + r.IntN(4)) % api.MaxPlaces
		var closed []api.Span
		for hour := 0; len(closed) < api.MaxClosed; hour += 4000 {
			lo := hour + r.IntN(2000)
			closed = append(closed, span(lo, lo+r.IntN(1500)))
		}
		l = append(l, track(api.MaxID-11*i, from, to, 1+r.IntN(api.MaxLong), r.IntN(12), closed...))
	}
	hours := []int{0, 5000, 15900, api.MaxHour}
	return trip{roads(api.MaxPlaces, l...), r.IntN(api.MaxPlaces), r.IntN(api.MaxPlaces), hours[seed%4], r.IntN(api.MaxPurse + 1)}
}

package cart_test

import (
	"math"
	"slices"
	"testing"

	"calx/api"
	"calx/cart"
)

func TestCheck(t *testing.T) {
	full := func(n int) api.Roads {
		r := roads(2)
		for i := range n {
			r.Tracks = append(r.Tracks, track(i+1, i%2, 1-i%2, 1, 0))
		}
		return r
	}
	good := track(1, 0, 1, 1, 0)
	for _, x := range []struct {
		name string
		r    api.Roads
		want api.Errno
	}{
		{"example", exampleRoads(), api.OK},
		{"nothing", api.Roads{}, api.ErrArg},
		{"one place", roads(1), api.OK},
		{"no track", roads(1, []api.Track{}...), api.OK},
		{"most places", roads(api.MaxPlaces), api.OK},
		{"too many places", roads(api.MaxPlaces + 1), api.ErrArg},
		{"places below 0", roads(-1), api.ErrArg},
		{"far too many places", roads(math.MaxInt), api.ErrArg},
		{"far too few places", roads(math.MinInt), api.ErrArg},
		{"most tracks", full(api.MaxTracks), api.OK},
		{"too many tracks", full(api.MaxTracks + 1), api.ErrLimit},
		{"too many wrong tracks", roads(2, make([]api.Track, api.MaxTracks+1)...), api.ErrLimit},
		{"places ahead of too many tracks", roads(0, make([]api.Track, api.MaxTracks+1)...), api.ErrArg},
		{"a wrong track", roads(2, good, api.Track{}), api.ErrArg},
		{"twice", roads(2, good, track(1, 1, 0, 9, 9)), api.ErrTwice},
		{"twice, with another one between", roads(2, good, track(2, 0, 1, 1, 0), good), api.ErrTwice},
		{"wrong, and twice", roads(2, good, track(1, 0, 0, 1, 0)), api.ErrArg},
		{"twice ahead of wrong", roads(2, good, good, api.Track{}), api.ErrTwice},
		{"wrong ahead of twice", roads(2, good, api.Track{}, good), api.ErrArg},
	} {
		if e := cart.Check(x.r); e != x.want {
			t.Error("P5.1:", x.name, e)
		}
	}
}

func TestCheckTrack(t *testing.T) {
	for _, x := range []struct {
		track api.Track
		want  api.Errno
	}{
		{track(1, 0, 2, 1, 0), api.OK}, {track(api.MaxID, 2, 0, 1, 0), api.OK},
		{track(0, 0, 2, 1, 0), api.ErrArg}, {track(-1, 0, 2, 1, 0), api.ErrArg}, {track(api.MaxID+1, 0, 2, 1, 0), api.ErrArg}, {track(math.MinInt, 0, 2, 1, 0), api.ErrArg},
		{track(1, -1, 2, 1, 0), api.ErrArg}, {track(1, 3, 2, 1, 0), api.ErrArg}, {track(1, 0, 3, 1, 0), api.ErrArg}, {track(1, 0, -1, 1, 0), api.ErrArg},
		{track(1, 1, 1, 1, 0), api.ErrArg}, {track(1, math.MinInt, math.MaxInt, 1, 0), api.ErrArg},
		{track(1, 0, 1, 0, 0), api.ErrArg}, {track(1, 0, 1, -1, 0), api.ErrArg}, {track(1, 0, 1, api.MaxLong, 0), api.OK}, {track(1, 0, 1, api.MaxLong+1, 0), api.ErrArg}, {track(1, 0, 1, math.MaxInt, 0), api.ErrArg},
		{track(1, 0, 1, 1, -1), api.ErrArg}, {track(1, 0, 1, 1, api.MaxToll), api.OK}, {track(1, 0, 1, 1, api.MaxToll+1), api.ErrArg}, {track(1, 0, 1, 1, math.MinInt), api.ErrArg},
	} {
		if e := cart.Check(roads(3, x.track)); e != x.want {
			t.Error("P5.1:", x, e)
		}
	}
}

// closed is spans in which a track may, or may not, be closed.
func closed() []struct {
	l     []api.Span
	right bool
} {
	return []struct {
		l     []api.Span
		right bool
	}{
		{nil, true}, {[]api.Span{}, true}, {[]api.Span{span(0, 0)}, true}, {[]api.Span{span(0, api.MaxHour)}, true}, {[]api.Span{span(api.MaxHour, api.MaxHour)}, true},
		{[]api.Span{span(-1, 0)}, false}, {[]api.Span{span(5, 4)}, false}, {[]api.Span{span(0, api.MaxHour+1)}, false}, {[]api.Span{span(math.MinInt, math.MaxInt)}, false}, {[]api.Span{span(math.MaxInt, math.MinInt)}, false},
		{[]api.Span{span(3, 5), span(7, 7)}, true}, {[]api.Span{span(3, 5), span(6, 7)}, false}, {[]api.Span{span(3, 5), span(5, 7)}, false}, {[]api.Span{span(3, 5), span(3, 5)}, false},
		{[]api.Span{span(7, 7), span(3, 5)}, false}, {[]api.Span{span(0, api.MaxHour), span(0, 0)}, false}, {[]api.Span{span(3, 5), span(7, 6)}, false},
		{[]api.Span{span(0, 1), span(3, 4), span(6, 7), span(9, 10)}, true}, {[]api.Span{span(0, 1), span(3, 4), span(6, 7), span(8, 10)}, false},
		{[]api.Span{span(0, 1), span(3, 4), span(6, 7), span(9, 10), span(12, 13)}, false},
	}
}

func TestClosed(t *testing.T) {
	for _, x := range closed() {
		want := api.OK
		if !x.right {
			want = api.ErrArg
		}
		if e := cart.Check(roads(2, track(1, 0, 1, 1, 0, x.l...))); e != want {
			t.Error("P5.1:", x, e)
		}
		for _, hour := range []int{-1, 0, 1, 2, 5, 6, 9, 10, 11, api.MaxHour, api.MaxHour + 1, math.MinInt, math.MaxInt} {
			n, e := cart.Enter(track(1, 0, 1, 1, 0, x.l...), hour)
			wantHour, want := hour, api.ErrArg
			if x.right && hour >= 0 && hour <= api.MaxHour {
				want = api.OK
				for wantHour <= api.MaxHour && isShut(api.Track{Closed: x.l}, wantHour) {
					wantHour++
				}
				if wantHour > api.MaxHour {
					want = api.ErrNone
				}
			}
			if want != api.OK {
				wantHour = 0
			}
			if n != wantHour || e != want {
				t.Error("P5.1: Enter:", x, hour, n, e)
			}
		}
	}
}

func TestExampleEnter(t *testing.T) {
	x := exampleRoads().Tracks[1]
	for _, y := range [][2]int{{8, 21}, {3, 3}, {0, 0}, {7, 7}, {20, 21}, {21, 21}, {api.MaxHour, api.MaxHour}} {
		if n, e := cart.Enter(x, y[0]); n != y[1] || e != api.OK {
			t.Error("P5.1:", y, n, e)
		}
	}
	// Nothing but Closed of a track counts.
	if n, e := cart.Enter(api.Track{ID: -1, From: 5, To: 5, Toll: -8, Closed: []api.Span{span(0, 9), span(11, 12)}}, 0); n != 10 || e != api.OK {
		t.Error("P5.1:", n, e)
	}
	if n, e := cart.Enter(track(1, 0, 1, 1, 0, span(0, 9), span(11, api.MaxHour)), 11); n != 0 || e != api.ErrNone {
		t.Error("P5.1:", n, e)
	}
}

// ask is a call of a function with roads, and whether all results but the error were nothing.
type ask struct {
	name      string
	to, purse bool // whether the function has them
	call      func(x trip) (api.Errno, bool)
}

func asks() []ask {
	wrong := journey(1, 1, 9, 9)
	return []ask{
		{"CheckJourney", true, false, func(x trip) (api.Errno, bool) {
			return cart.CheckJourney(x.roads, x.from, x.to, x.hour, wrong), true
		}},
		{"Earliest", false, false, func(x trip) (api.Errno, bool) {
			l, e := cart.Earliest(x.roads, x.from, x.hour)
			return e, len(l.Hours) == 0
		}},
		{"CheckTimes", false, false, func(x trip) (api.Errno, bool) {
			return cart.CheckTimes(x.roads, x.from, x.hour, api.Times{}), true
		}},
		{"Front", true, false, func(x trip) (api.Errno, bool) {
			l, e := cart.Front(x.roads, x.from, x.to, x.hour)
			return e, len(l) == 0
		}},
		{"CheckFront", true, false, func(x trip) (api.Errno, bool) {
			return cart.CheckFront(x.roads, x.from, x.to, x.hour, []api.Journey{wrong}, api.Times{}), true
		}},
		{"Best", true, true, func(x trip) (api.Errno, bool) {
			j, e := cart.Best(x.roads, x.from, x.to, x.hour, x.purse)
			return e, equalJourneys(j, api.Journey{})
		}},
		{"Latest", true, true, func(x trip) (api.Errno, bool) {
			n, e := cart.Latest(x.roads, x.from, x.to, x.hour, x.purse)
			return e, n == 0
		}},
		{"Needed", true, true, func(x trip) (api.Errno, bool) {
			l, e := cart.Needed(x.roads, x.from, x.to, x.hour, x.purse)
			return e, len(l) == 0
		}},
	}
}

func TestTripErrors(t *testing.T) {
	good := exampleRoads()
	far := []int{math.MinInt, -1, math.MaxInt}
	for _, a := range asks() {
		fails := func(x trip, want api.Errno) {
			t.Helper()
			if e, nothing := a.call(x); e != want || !nothing {
				t.Error("P5.1:", a.name, x, e, nothing)
			}
		}
		passes := func(x trip) {
			t.Helper()
			if e, _ := a.call(x); e == api.ErrArg {
				t.Error("P5.1:", a.name, x, e)
			}
		}
		passes(trip{good, 0, 2, 0, 0})
		passes(trip{good, 2, 0, api.MaxHour, api.MaxPurse})
		for _, n := range append(far, 3) {
			fails(trip{good, n, 2, 0, 0}, api.ErrArg)
			if a.to {
				fails(trip{good, 0, n, 0, 0}, api.ErrArg)
			}
		}
		for _, n := range append(far, api.MaxHour+1) {
			fails(trip{good, 0, 2, n, 0}, api.ErrArg)
		}
		for _, n := range append(far, api.MaxPurse+1) {
			if a.purse {
				fails(trip{good, 0, 2, 0, n}, api.ErrArg)
			}
		}
		// What is wrong with the roads comes ahead of all else.
		for _, r := range []api.Roads{roads(2, make([]api.Track, api.MaxTracks+1)...), roads(0), with(good, track(1, 0, 1, 1, 0)), with(good, track(5, 0, 1, 0, 0))} {
			want := cart.Check(r)
			fails(trip{r, 0, 0, 0, 0}, want)
			fails(trip{r, -1, 0, 0, 0}, want)
			fails(trip{r, 0, 0, -1, -1}, want)
		}
	}
}

// TestTripProofs: what is no proof comes behind all else.
func TestTripProofs(t *testing.T) {
	r := exampleRoads()
	for _, a := range asks() {
		want := api.OK
		if slices.Contains([]string{"CheckJourney", "CheckTimes", "CheckFront"}, a.name) {
			want = api.ErrProof
		}
		if e, _ := a.call(trip{r, 0, 2, 30, 60}); e != want {
			t.Error("P5.2, P5.3, P5.4:", a.name, e)
		}
	}
}

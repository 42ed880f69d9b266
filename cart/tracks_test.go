package cart_test

import (
	"math"
	"math/rand/v2"
	"slices"
	"testing"

	"calx/api"
	"calx/cart"
)

func TestExampleLatest(t *testing.T) {
	r := exampleRoads()
	for _, x := range []struct {
		from, to, by, purse, want int
		e                         api.Errno
	}{
		{0, 2, 26, 0, 16, api.OK}, {0, 2, 25, 0, 2, api.OK}, {0, 2, 12, 0, 2, api.OK}, {0, 2, 11, 0, 1, api.OK}, {0, 2, 10, 0, 0, api.OK}, {0, 2, 9, 0, 0, api.ErrNone},
		{0, 2, 26, 2, 16, api.OK}, {0, 2, 25, 2, 12, api.OK}, {0, 2, 25, 6, 16, api.OK}, {0, 2, 9, 6, 0, api.OK}, {0, 2, 8, 60, 0, api.ErrNone},
		{2, 0, api.MaxHour, 60, 0, api.ErrNone}, {1, 1, 0, 0, 0, api.OK}, {1, 1, 77, 0, 77, api.OK}, {1, 1, api.MaxHour, 60, api.MaxHour, api.OK},
		{0, 2, api.MaxHour, 0, api.MaxHour - 10, api.OK}, {0, 1, api.MaxHour, 0, api.MaxHour - 5, api.OK},
	} {
		if n, e := cart.Latest(r, x.from, x.to, x.by, x.purse); n != x.want || e != x.e {
			t.Error("P5.5:", x, n, e)
		}
	}
}

func TestLatest(t *testing.T) {
	some, none := 0, 0
	many(t, 6, 500, func(t *testing.T, r *rand.Rand, x trip, _ chart) {
		by := min(x.hour+r.IntN(20), api.MaxHour)
		latest, e := cart.Latest(x.roads, x.from, x.to, by, x.purse)
		inTime := func(hour int) bool {
			return hour <= by && chartUntil(x.roads, x.from, hour, by).earliest(x.to, x.purse) >= 0
		}
		switch e {
		case api.OK:
			some++
			if latest < 0 || latest > by || !inTime(latest) || inTime(latest+1) {
				t.Fatal("P5.5: Latest:", by, latest)
			}
		case api.ErrNone:
			none++
			if latest != 0 || inTime(0) {
				t.Fatal("P5.5: Latest:", by, latest, e)
			}
		default:
			t.Fatal("P5.5: Latest:", by, latest, e)
		}
		if by > 60 {
			return
		}
		for hour := range by + 1 {
			if inTime(hour) != (e == api.OK && hour <= latest) {
				t.Fatal("P5.5: Latest:", by, latest, e, hour)
			}
		}
	})
	if some < 150 || none < 100 {
		t.Error("too few trips of a sort:", some, none)
	}
}

// TestWaiting: whoever begins later, or has less pence, arrives no sooner; Latest is just in time.
func TestWaiting(t *testing.T) {
	many(t, 7, 500, func(t *testing.T, r *rand.Rand, x trip, _ chart) {
		last := -1
		for hour := x.hour; hour <= min(x.hour+15, api.MaxHour); hour++ {
			j, e := cart.Best(x.roads, x.from, x.to, hour, x.purse)
			if e == api.ErrNone {
				j.Arrival = math.MaxInt
			}
			if j.Arrival < last {
				t.Fatal("P5.13: later, but sooner there:", hour, j, last)
			}
			last = j.Arrival
		}
		last = math.MaxInt
		for purse := range api.MaxPurse + 1 {
			if j, e := cart.Best(x.roads, x.from, x.to, x.hour, purse); e == api.OK {
				if j.Arrival > last {
					t.Fatal("P5.13: later with more pence:", purse, j, last)
				}
				last = j.Arrival
			} else if last != math.MaxInt {
				t.Fatal("P5.13: never with more pence:", purse, e)
			}
		}
		if last == math.MaxInt {
			return
		}
		by := min(last+r.IntN(3), api.MaxHour)
		latest, e := cart.Latest(x.roads, x.from, x.to, by, api.MaxPurse)
		if e != api.OK || latest < x.hour {
			t.Fatal("P5.13: Latest is ahead of one that is in time:", by, latest, e)
		}
		if j, e := cart.Best(x.roads, x.from, x.to, latest, api.MaxPurse); e != api.OK || j.Arrival > by {
			t.Fatal("P5.13: Latest is late:", by, latest, j, e)
		}
		if j, e := cart.Best(x.roads, x.from, x.to, latest+1, api.MaxPurse); e == api.OK && j.Arrival <= by || e == api.ErrArg && latest != api.MaxHour {
			t.Fatal("P5.13: Latest is not the last:", by, latest, j, e)
		}
	})
}

func TestExampleNeeded(t *testing.T) {
	r := exampleRoads()
	for _, x := range []struct {
		from, to, hour, purse int
		want                  []int
		e                     api.Errno
	}{
		{0, 2, 4, 0, []int{1, 2}, api.OK}, {0, 2, 4, 60, []int{3}, api.OK}, {0, 2, 4, 5, []int{1, 4}, api.OK}, {0, 2, 2, 5, []int{1, 2}, api.OK},
		{0, 1, 4, 9, []int{1}, api.OK}, {1, 1, 4, 9, nil, api.OK}, {2, 0, 4, 60, nil, api.ErrNone}, {0, 2, api.MaxHour - 9, 0, nil, api.ErrNone},
	} {
		if l, e := cart.Needed(r, x.from, x.to, x.hour, x.purse); !slices.Equal(l, x.want) || e != x.e {
			t.Error("P5.5:", x, l, e)
		}
	}
	// Two ways that are as soon: neither is needed. The IDs are told in their order, not in that of the tracks.
	two := roads(4, track(9, 0, 1, 2, 0), track(5, 0, 1, 1, 0, span(0, 0)), track(8, 1, 2, 1, 0), track(3, 2, 3, 1, 0))
	if l, e := cart.Needed(two, 0, 3, 0, 0); e != api.OK || !slices.Equal(l, []int{3, 8}) {
		t.Error("P5.5:", l, e)
	}
	if l, e := cart.Needed(two, 0, 3, 1, 0); e != api.OK || !slices.Equal(l, []int{3, 5, 8}) {
		t.Error("P5.5:", l, e)
	}
}

func TestNeeded(t *testing.T) {
	needed, not := 0, 0
	many(t, 8, 400, func(t *testing.T, r *rand.Rand, x trip, c chart) {
		l, e := cart.Needed(x.roads, x.from, x.to, x.hour, x.purse)
		arrival := c.earliest(x.to, x.purse)
		if arrival < 0 {
			if e != api.ErrNone || len(l) != 0 {
				t.Fatal("P5.5: Needed:", l, e)
			}
			return
		}
		var want []int
		for _, y := range x.roads.Tracks {
			less := without(x.roads, y.ID)
			if chartOf(less, x.from, x.hour).earliest(x.to, x.purse) != arrival {
				want = append(want, y.ID)
				needed++
				continue
			}
			not++
			if j, e := cart.Best(less, x.from, x.to, x.hour, x.purse); e != api.OK || j.Arrival != arrival {
				t.Fatal("P5.14: without a track that is not needed:", y.ID, j, e)
			}
		}
		slices.Sort(want)
		if e != api.OK || !slices.Equal(l, want) {
			t.Fatal("P5.5: Needed:", l, e, want)
		}
	})
	if needed < 100 || not < 300 {
		t.Error("too few tracks of a sort:", needed, not)
	}
}

func TestExampleShut(t *testing.T) {
	five := []api.Span{span(10, 19), span(30, 39), span(50, 59), span(70, 79)}
	for _, x := range []struct {
		name   string
		closed []api.Span
		s      api.Span
		want   []api.Span
		e      api.Errno
	}{
		{"the first one", nil, span(3, 5), []api.Span{span(3, 5)}, api.OK},
		{"an hour", nil, span(0, 0), []api.Span{span(0, 0)}, api.OK},
		{"all hours", []api.Span{span(8, 20)}, span(0, api.MaxHour), []api.Span{span(0, api.MaxHour)}, api.OK},
		{"behind", []api.Span{span(8, 20)}, span(22, 25), []api.Span{span(8, 20), span(22, 25)}, api.OK},
		{"touching behind", []api.Span{span(8, 20)}, span(21, 25), []api.Span{span(8, 25)}, api.OK},
		{"meeting behind", []api.Span{span(8, 20)}, span(20, 25), []api.Span{span(8, 25)}, api.OK},
		{"ahead", []api.Span{span(8, 20)}, span(3, 6), []api.Span{span(3, 6), span(8, 20)}, api.OK},
		{"touching ahead", []api.Span{span(8, 20)}, span(3, 7), []api.Span{span(3, 20)}, api.OK},
		{"meeting ahead", []api.Span{span(8, 20)}, span(3, 8), []api.Span{span(3, 20)}, api.OK},
		{"inside", []api.Span{span(8, 20)}, span(9, 12), []api.Span{span(8, 20)}, api.OK},
		{"the same", []api.Span{span(8, 20)}, span(8, 20), []api.Span{span(8, 20)}, api.OK},
		{"around", []api.Span{span(8, 20)}, span(7, 21), []api.Span{span(7, 21)}, api.OK},
		{"between two", []api.Span{span(1, 2), span(8, 20)}, span(4, 6), []api.Span{span(1, 2), span(4, 6), span(8, 20)}, api.OK},
		{"touching two", []api.Span{span(1, 2), span(8, 20)}, span(3, 7), []api.Span{span(1, 20)}, api.OK},
		{"one behind four", five, span(81, 81), nil, api.ErrLimit},
		{"one ahead of four", five, span(0, 8), nil, api.ErrLimit},
		{"one among four", five, span(41, 48), nil, api.ErrLimit},
		{"touching one of four", five, span(40, 48), []api.Span{span(10, 19), span(30, 48), span(50, 59), span(70, 79)}, api.OK},
		{"joining two of four", five, span(40, 49), []api.Span{span(10, 19), span(30, 59), span(70, 79)}, api.OK},
		{"joining three of four", five, span(15, 50), []api.Span{span(10, 59), span(70, 79)}, api.OK},
		{"over all four", five, span(9, 80), []api.Span{span(9, 80)}, api.OK},
		{"no span", nil, span(5, 4), nil, api.ErrArg},
		{"ahead of the season", nil, span(-1, 4), nil, api.ErrArg},
		{"behind the season", nil, span(4, api.MaxHour+1), nil, api.ErrArg},
		{"far out", nil, span(math.MinInt, math.MaxInt), nil, api.ErrArg},
		{"no span, with four", five, span(5, 4), nil, api.ErrArg},
	} {
		r := exampleRoads()
		r.Tracks[1].Closed = x.closed
		kept := cloneRoads(r)
		got, e := cart.Shut(r, 2, x.s)
		want := api.Roads{}
		if x.e == api.OK {
			want = cloneRoads(r)
			want.Tracks[1].Closed = x.want
		}
		if e != x.e || !equalRoads(got, want) || !equalRoads(r, kept) {
			t.Error("P5.6:", x.name, got, e)
		}
		if got, e := cart.Shut(r, 5, x.s); e != api.ErrNone || !equalRoads(got, api.Roads{}) {
			t.Error("P5.6: no track:", x.name, got, e)
		}
		r.Tracks[1].ID = 1
		if got, e := cart.Shut(r, 5, x.s); e != api.ErrTwice || !equalRoads(got, api.Roads{}) {
			t.Error("P5.6: wrong roads:", x.name, got, e)
		}
	}
}

// TestShut: a track is closed in just the hours in which it was, and in those of the span.
func TestShut(t *testing.T) {
	r := rand.New(rand.NewPCG(9, 5))
	done, many := 0, 0
	for range 1500 {
		base := []int{0, 500, api.MaxHour - 40}[r.IntN(3)]
		x := track(7, 0, 1, 5, 0, closings(r, base)...)
		old := roads(3, track(6, 1, 2, 4, 4, closings(r, base)...), x, track(8, 0, 1, 4, 4, closings(r, base)...))
		lo := min(base+r.IntN(40), api.MaxHour)
		s := span(lo, min(lo+r.IntN(10), api.MaxHour))
		var want []api.Span
		for hour := range api.MaxHour + 1 {
			if !isShut(x, hour) && (hour < s.Lo || hour > s.Hi) {
				continue
			}
			if n := len(want); n > 0 && want[n-1].Hi == hour-1 {
				want[n-1].Hi = hour
			} else {
				want = append(want, span(hour, hour))
			}
		}
		shut, e := cart.Shut(old, 7, s)
		if len(want) > api.MaxClosed {
			many++
			if e != api.ErrLimit || !equalRoads(shut, api.Roads{}) {
				t.Fatal("P5.6:", old, s, shut, e)
			}
			continue
		}
		done++
		all := cloneRoads(old)
		all.Tracks[1].Closed = want
		if e != api.OK || !equalRoads(shut, all) || cart.Check(shut) != api.OK {
			t.Fatal("P5.6:", old, s, shut, e, want)
		}
	}
	if done < 500 || many < 50 {
		t.Error("too few tracks of a sort:", done, many)
	}
}

// TestClosing: with a track closed for longer, no journey is sooner.
func TestClosing(t *testing.T) {
	later := 0
	many(t, 10, 400, func(t *testing.T, r *rand.Rand, x trip, _ chart) {
		for range 3 {
			if len(x.roads.Tracks) == 0 {
				return
			}
			id := x.roads.Tracks[r.IntN(len(x.roads.Tracks))].ID
			lo := min(x.hour+r.IntN(8), api.MaxHour)
			shut, e := cart.Shut(x.roads, id, span(lo, min(lo+r.IntN(9), api.MaxHour)))
			if e != api.OK {
				continue
			}
			old, _ := cart.Earliest(x.roads, x.from, x.hour)
			times, _ := cart.Earliest(shut, x.from, x.hour)
			for place, l := range times.Hours {
				for sum, h := range l {
					if y := old.Hours[place][sum]; h != -1 && (y == -1 || h < y) {
						t.Fatal("P5.14: sooner with a closed track:", id, lo, place, sum, h, y)
					} else if h != y {
						later++
					}
				}
			}
			// No journey of the roads with the closed track is sooner than the old times say.
			if e := cart.CheckTimes(shut, x.from, x.hour, old); e != api.OK {
				t.Fatal("P5.14:", e)
			}
		}
	})
	if later < 1000 {
		t.Error("too few later journeys:", later)
	}
}

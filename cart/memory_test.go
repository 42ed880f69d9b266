package cart_test

import (
	"slices"
	"testing"

	"calx/api"
	"calx/cart"
)

// spoil makes all that a journey tells another thing.
func spoil(l []api.Journey) {
	for i, j := range l {
		for k := range j.Legs {
			j.Legs[k] = api.Leg{Track: -7, Hour: -7}
		}
		l[i] = api.Journey{}
	}
}

// spoilPlan makes all that a plan tells another thing.
func spoilPlan(p api.Plan) {
	for i := range p.Given {
		p.Given[i] = -7
	}
	for i := range p.Prices {
		p.Prices[i] = -7
	}
}

// TestRoadsMemory: arguments stay as they are, also behind their ends; results share no memory.
func TestRoadsMemory(t *testing.T) {
	spans := []api.Span{span(8, 20), span(500, 600), {Lo: 9, Hi: 9}, {Lo: 9, Hi: 9}, {Lo: 9, Hi: 9}}
	tracks := append(exampleRoads().Tracks, track(77, 9, 9, 9, 9), track(78, 9, 9, 9, 9))
	tracks[1].Closed = spans[:2]
	tracks[2].Closed = []api.Span{span(900, 901)}
	r := roads(3, tracks[:4]...)
	keptSpans, keptTracks := slices.Clone(spans), cloneRoads(roads(3, tracks...))
	use := func() {
		times, e1 := cart.Earliest(r, 0, 4)
		front, e2 := cart.Front(r, 0, 2, 4)
		keptTimes := cloneTimes(times)
		if e := cart.CheckFront(r, 0, 2, 4, front, times); max(e, e1, e2) != api.OK || !slices.Equal(pairs(front), [][2]int{{0, 26}, {2, 17}, {6, 13}}) {
			t.Error("R6:", front, e, e1, e2)
		}
		for i, l := range times.Hours {
			if !slices.Equal(l, keptTimes.Hours[i]) {
				t.Error("R6: times are changed:", i, l)
			}
		}
		grown := append(times.Hours[0], 5)
		grown[0] = 5
		for _, l := range times.Hours {
			for sum := range l {
				l[sum] = -7
			}
		}
		j, e1 := cart.Best(r, 0, 2, 4, 0)
		if e := cart.CheckJourney(r, 0, 2, 4, j); e != api.OK || e1 != api.OK {
			t.Error("R6:", j, e, e1)
		}
		spoil(front)
		spoil([]api.Journey{j})
		l, e1 := cart.Needed(r, 0, 2, 4, 0)
		if !slices.Equal(l, []int{1, 2}) || e1 != api.OK {
			t.Error("R6:", l, e1)
		}
		l[0] = -7
		if n, e := cart.Latest(r, 0, 2, 26, 0); n != 16 || e != api.OK {
			t.Error("R6:", n, e)
		}
		for id := 1; id <= 3; id++ {
			shut, e := cart.Shut(r, id, span(700, 800))
			if e != api.OK {
				t.Error("R6:", e)
			}
			for i, x := range shut.Tracks {
				shut.Tracks[i].Closed = append(x.Closed, span(1, 1))
				for k := range x.Closed {
					x.Closed[k] = span(2, 2)
				}
				shut.Tracks[i].Long = 70
			}
			shut.Tracks = append(shut.Tracks, api.Track{})
		}
	}
	use()
	use()
	if !slices.Equal(spans, keptSpans) || !equalRoads(roads(3, tracks...), keptTracks) {
		t.Error("R6: an argument is changed:", spans, tracks)
	}
	front, _ := cart.Front(r, 0, 2, 4)
	first := slices.Clone(front[0].Legs)
	grown := append(front[1].Legs, api.Leg{})
	grown[0] = api.Leg{}
	if !slices.Equal(front[0].Legs, first) || !leads(r, 0, 2, 4, front[2]) {
		t.Error("R6: journeys share memory:", front)
	}
}

// TestYardMemory: the same of yards and plans.
func TestYardMemory(t *testing.T) {
	bays := append(exampleYard().Bays, bay(77, 0, 0))
	orders := append(exampleYard().Orders, order(77, 9, 8, 7, 6))
	y := api.Yard{Bays: bays[:2], Orders: orders[:3]}
	keptBays, keptOrders := slices.Clone(bays), slices.Clone(orders)
	given, prices := []int{1, 2, 0, 77}, []int{0, 7, 77}
	ids := []int{7, 8, 9, 77}
	p := api.Plan{Given: given[:3], Worth: 14, Prices: prices[:2]}
	use := func() {
		n, e := cart.Worth(y)
		lost, e1 := cart.Lost(y, 1)
		if e2 := cart.CheckPlan(y, p); n != 14 || lost != 5 || max(e, e1, e2) != api.OK {
			t.Error("R6:", n, lost, e, e1, e2)
		}
		served, e1 := cart.Serve(y)
		later, e2 := cart.Later(y, p, order(10, 10, 11, 4, 10))
		if !slices.Equal(served.Given, []int{1, 2, 0}) || !slices.Equal(later.Given, []int{1, 0, 0, 2}) || max(e1, e2) != api.OK {
			t.Error("R6:", served, later, e1, e2)
		}
		spoilPlan(served)
		spoilPlan(later)
		sure, e1 := cart.Surely(y)
		nevers, e2 := cart.Never(y)
		crowd, e3 := cart.Crowded(y, ids[:3])
		if !slices.Equal(sure, []int{7, 8}) || !slices.Equal(nevers, []int{9}) || !slices.Equal(crowd, []int{8, 9}) || max(e1, e2, e3) != api.OK {
			t.Error("R6:", sure, nevers, crowd, e1, e2, e3)
		}
		for _, l := range [][]int{sure, nevers, crowd} {
			l[0] = -7
		}
	}
	use()
	use()
	if !slices.Equal(bays, keptBays) || !slices.Equal(orders, keptOrders) {
		t.Error("R6: an argument is changed:", bays, orders)
	}
	if !slices.Equal(given, []int{1, 2, 0, 77}) || !slices.Equal(prices, []int{0, 7, 77}) || !slices.Equal(ids, []int{7, 8, 9, 77}) {
		t.Error("R6: an argument is changed:", given, prices, ids)
	}
}

// TestAlike: the same call has the same result, whichever of several it tells.
func TestAlike(t *testing.T) {
	x := great(2)
	front, _ := cart.Front(x.roads, x.from, x.to, x.hour)
	y := greatYard(2)
	further := y.Orders[api.MaxOrders-1]
	y.Orders = y.Orders[:api.MaxOrders-1]
	p, _ := cart.Serve(y)
	later, _ := cart.Later(y, p, further)
	for range 20 {
		if l, e := cart.Front(x.roads, x.from, x.to, x.hour); e != api.OK || !slices.EqualFunc(l, front, equalJourneys) {
			t.Error("R7:", l, front, e)
		}
		if q, e := cart.Serve(y); e != api.OK || !equalPlans(q, p) {
			t.Error("R7:", q, p, e)
		}
		if q, e := cart.Later(y, p, further); e != api.OK || !equalPlans(q, later) {
			t.Error("R7:", q, later, e)
		}
	}
}

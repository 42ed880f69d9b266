package cart_test

import (
	"math"
	"math/rand/v2"
	"slices"
	"testing"

	"calx/api"
	"calx/cart"
)

func TestCheckJourney(t *testing.T) {
	r := with(exampleRoads(), track(5, 2, 0, 3, 28), track(6, 1, 0, 1, 0))
	for _, x := range []struct {
		name           string
		from, to, hour int
		j              api.Journey
		want           api.Errno
	}{
		{"two legs", 0, 2, 4, journey(26, 0, 1, 4, 2, 21), api.OK},
		{"waiting first", 0, 2, 4, journey(26, 0, 1, 16, 2, 21), api.OK},
		{"too late for the second leg", 0, 2, 4, journey(26, 0, 1, 17, 2, 21), api.ErrProof},
		{"ahead of the closing", 0, 2, 2, journey(12, 0, 1, 2, 2, 7), api.OK},
		{"ahead of the beginning", 0, 2, 3, journey(12, 0, 1, 2, 2, 7), api.ErrProof},
		{"in the first closed hour", 0, 2, 2, journey(13, 0, 1, 2, 2, 8), api.ErrProof},
		{"in the last closed hour", 0, 2, 2, journey(25, 0, 1, 2, 2, 20), api.ErrProof},
		{"another arrival", 0, 2, 4, journey(27, 0, 1, 4, 2, 21), api.ErrProof},
		{"an earlier arrival", 0, 2, 4, journey(25, 0, 1, 4, 2, 21), api.ErrProof},
		{"another toll", 0, 2, 4, journey(17, 1, 1, 4, 4, 9), api.ErrProof},
		{"the toll", 0, 2, 4, journey(17, 2, 1, 4, 4, 9), api.OK},
		{"a track that is none", 0, 2, 4, journey(17, 2, 1, 4, 7, 9), api.ErrProof},
		{"a track from elsewhere", 0, 2, 4, journey(12, 2, 4, 4), api.ErrProof},
		{"to elsewhere", 0, 2, 4, journey(9, 0, 1, 4), api.ErrProof},
		{"to where the legs end", 0, 1, 4, journey(9, 0, 1, 4), api.OK},
		{"legs that do not join", 0, 2, 4, journey(18, 6, 1, 4, 3, 9), api.ErrProof},
		{"no legs", 0, 0, 4, journey(4, 0), api.OK},
		{"no legs, and later", 0, 0, 4, journey(5, 0), api.ErrProof},
		{"no legs, and earlier", 0, 0, 4, journey(3, 0), api.ErrProof},
		{"no legs, and a toll", 0, 0, 4, journey(4, 1), api.ErrProof},
		{"no legs, and another place", 0, 1, 4, journey(4, 0), api.ErrProof},
		{"around", 0, 0, 4, journey(16, 34, 3, 4, 5, 13), api.OK},
		{"around, and on", 0, 1, 4, journey(21, 34, 3, 4, 5, 13, 1, 16), api.OK},
		{"there and back", 0, 0, 4, journey(10, 0, 1, 4, 6, 9), api.OK},
		{"twice around", 0, 0, 0, journey(24, 68, 3, 0, 5, 9, 3, 12, 5, 21), api.ErrProof},
		{"60 pence", 2, 2, 0, journey(25, 60, 5, 0, 1, 3, 4, 8, 5, 16, 1, 19, 6, 24, 1, 25), api.ErrProof},
		{"58 pence", 2, 0, 0, journey(25, 58, 5, 0, 1, 3, 4, 8, 5, 16, 1, 19, 6, 24), api.OK},
		{"at the end of the season", 0, 1, 4, journey(api.MaxHour, 0, 1, api.MaxHour-5), api.OK},
		{"behind the end of the season", 0, 1, 4, journey(api.MaxHour+1, 0, 1, api.MaxHour-4), api.ErrProof},
		{"far behind", 0, 1, 4, journey(math.MinInt+4, 0, 1, math.MaxInt), api.ErrProof},
		{"far ahead", 0, 1, 4, journey(math.MinInt+5, 0, 1, math.MinInt), api.ErrProof},
		{"a track of ID 0", 0, 1, 4, journey(9, 0, 0, 4), api.ErrProof},
	} {
		if e := cart.CheckJourney(r, x.from, x.to, x.hour, x.j); e != x.want {
			t.Error("P5.2:", x.name, e)
		}
		if (x.want == api.OK) != leads(r, x.from, x.to, x.hour, x.j) {
			t.Error("P5.2: by hand:", x.name)
		}
	}
}

// TestPurse: a journey of just as many pence as can be, and one of a penny more.
func TestPurse(t *testing.T) {
	for _, x := range []struct {
		toll int
		want api.Errno
	}{{20, api.OK}, {21, api.ErrProof}} {
		r := roads(3, track(1, 0, 1, 1, api.MaxToll), track(2, 1, 2, 1, x.toll))
		if e := cart.CheckJourney(r, 0, 2, 0, journey(2, api.MaxToll+x.toll, 1, 0, 2, 1)); e != x.want {
			t.Error("P5.2:", x, e)
		}
		l, e := cart.Front(r, 0, 2, 0)
		if e != api.OK || (len(l) == 1) != (x.want == api.OK) {
			t.Error("P5.4:", x, l, e)
		}
	}
}

// changed is a journey in which something is another number.
func changed(r *rand.Rand, j api.Journey) api.Journey {
	j.Legs = slices.Clone(j.Legs)
	by := []int{-1, 1, 7, math.MaxInt}[r.IntN(4)]
	switch n := r.IntN(6); {
	case n == 0:
		j.Arrival += by
	case n == 5:
		// All of it a little later: this is a journey, too, if the tracks are open then.
		j.Arrival++
		for i := range j.Legs {
			j.Legs[i].Hour++
		}
	case n == 1:
		j.Toll += by
	case len(j.Legs) == 0:
		j.Legs = []api.Leg{{Track: 1, Hour: by}}
	case n == 2:
		j.Legs = slices.Delete(j.Legs, 0, 1)
	case n == 3:
		j.Legs[r.IntN(len(j.Legs))].Hour += by
	default:
		j.Legs[r.IntN(len(j.Legs))].Track += by
	}
	return j
}

func TestJourneys(t *testing.T) {
	still := 0
	many(t, 1, 600, func(t *testing.T, r *rand.Rand, x trip, c chart) {
		l, e := cart.Front(x.roads, x.from, x.to, x.hour)
		if e != api.OK || !slices.Equal(pairs(l), c.front(x.to)) {
			t.Fatal("P5.4: Front:", l, e, c.front(x.to))
		}
		for _, j := range l {
			if !leads(x.roads, x.from, x.to, x.hour, j) {
				t.Fatal("P5.4: no journey:", j)
			}
			if e := cart.CheckJourney(x.roads, x.from, x.to, x.hour, j); e != api.OK {
				t.Fatal("P5.12:", j, e)
			}
			for range 6 {
				k := changed(r, j)
				want := api.ErrProof
				if leads(x.roads, x.from, x.to, x.hour, k) {
					want = api.OK
					still++
				}
				if e := cart.CheckJourney(x.roads, x.from, x.to, x.hour, k); e != want {
					t.Fatal("P5.2:", k, e, want)
				}
			}
		}
	})
	if still < 20 {
		t.Error("too few changed journeys that are still ones:", still)
	}
}

func TestExampleFront(t *testing.T) {
	r := exampleRoads()
	l, e := cart.Front(r, 0, 2, 4)
	if e != api.OK || !slices.Equal(pairs(l), [][2]int{{0, 26}, {2, 17}, {6, 13}}) {
		t.Error("P5.4:", l, e)
	}
	times, _ := cart.Earliest(r, 0, 4)
	if e := cart.CheckFront(r, 0, 2, 4, l, times); e != api.OK {
		t.Error("P5.4:", e)
	}
	for _, x := range []struct {
		name     string
		from, to int
		want     [][2]int
	}{{"the same place", 1, 1, [][2]int{{0, 4}}}, {"no journey", 2, 0, nil}, {"one", 0, 1, [][2]int{{0, 9}}}} {
		l, e := cart.Front(r, x.from, x.to, 4)
		times, _ := cart.Earliest(r, x.from, 4)
		if e != api.OK || !slices.Equal(pairs(l), x.want) {
			t.Error("P5.4:", x.name, l, e)
		}
		if e := cart.CheckFront(r, x.from, x.to, 4, l, times); e != api.OK {
			t.Error("P5.4:", x.name, e)
		}
	}
	// A track that arrives just at the last hour, and one that does not.
	end := roads(2, track(1, 0, 1, 5, 3), track(2, 0, 1, 6, 0))
	if l, e := cart.Front(end, 0, 1, api.MaxHour-5); e != api.OK || !slices.Equal(pairs(l), [][2]int{{3, api.MaxHour}}) {
		t.Error("P5.4:", l, e)
	}
}

func TestCheckFront(t *testing.T) {
	// Two further tracks are dearer than the way by the track 4, and no sooner.
	r := with(exampleRoads(), track(7, 0, 2, 20, 3), track(8, 0, 2, 13, 4))
	a, b, c := journey(26, 0, 1, 4, 2, 21), journey(17, 2, 1, 4, 4, 9), journey(13, 6, 3, 4)
	late := journey(18, 2, 1, 4, 4, 10)
	waits := journey(26, 0, 1, 16, 2, 21)
	times, _ := cart.Earliest(r, 0, 4)
	other := func(place, sum, hour int) api.Times {
		x := cloneTimes(times)
		x.Hours[place][sum] = hour
		return x
	}
	for _, x := range []struct {
		name  string
		l     []api.Journey
		times api.Times
		want  api.Errno
	}{
		{"the front", []api.Journey{a, b, c}, times, api.OK},
		{"one as soon and as cheap as another", []api.Journey{waits, b, c}, times, api.OK},
		{"none", nil, times, api.ErrProof},
		{"without the first", []api.Journey{b, c}, times, api.ErrProof},
		{"without the second", []api.Journey{a, c}, times, api.ErrProof},
		{"without the last", []api.Journey{a, b}, times, api.ErrProof},
		{"in another order", []api.Journey{b, a, c}, times, api.ErrProof},
		{"from the last on", []api.Journey{c, b, a}, times, api.ErrProof},
		{"one twice", []api.Journey{a, b, b, c}, times, api.ErrProof},
		{"one that is dearer and later", []api.Journey{a, b, journey(24, 3, 7, 4), c}, times, api.ErrProof},
		{"one that is dearer and as soon", []api.Journey{a, b, journey(17, 4, 8, 4), c}, times, api.ErrProof},
		{"two alike", []api.Journey{waits, a, b, c}, times, api.ErrProof},
		{"one that is later", []api.Journey{a, late, c}, times, api.ErrProof},
		{"two with a toll", []api.Journey{a, late, b, c}, times, api.ErrProof},
		{"no journey", []api.Journey{a, b, {Legs: c.Legs, Arrival: 12, Toll: 6}}, times, api.ErrProof},
		{"one to another place", []api.Journey{a, b, c, journey(9, 0, 1, 4)}, times, api.ErrProof},
		{"no times", []api.Journey{a, b, c}, api.Times{}, api.ErrProof},
		{"other times of the place", []api.Journey{a, b, c}, other(2, 60, 12), api.ErrProof},
		{"no hour of the place", []api.Journey{a, b, c}, other(2, 0, -1), api.ErrProof},
		{"times that do not hold", []api.Journey{a, b, c}, other(1, 60, 3), api.ErrProof},
	} {
		if e := cart.CheckFront(r, 0, 2, 4, x.l, x.times); e != x.want {
			t.Error("P5.4:", x.name, e)
		}
	}
	// Times that no journey attains prove it, too, if they are attained at the place itself.
	more := with(r, track(5, 2, 1, 1, 0))
	more.Places = 4
	dead := with(more, track(6, 0, 3, 9, 9))
	times, _ = cart.Earliest(dead, 0, 4)
	for sum := range times.Hours[3] {
		times.Hours[3][sum] = 1
	}
	if e := cart.CheckFront(dead, 0, 2, 4, []api.Journey{a, b, c}, times); e != api.OK {
		t.Error("P5.4:", e)
	}
	if e := cart.CheckFront(dead, 0, 3, 4, []api.Journey{journey(13, 9, 6, 4)}, times); e != api.ErrProof {
		t.Error("P5.4:", e)
	}
	// Of a place to which nothing leads, no list is the front.
	times, _ = cart.Earliest(r, 2, 4)
	if e := cart.CheckFront(r, 2, 0, 4, nil, times); e != api.OK {
		t.Error("P5.4:", e)
	}
	if e := cart.CheckFront(r, 2, 0, 4, []api.Journey{journey(4, 0)}, times); e != api.ErrProof {
		t.Error("P5.4:", e)
	}
}

// TestFronts: what CheckFront accepts is a front, and Best is in it.
func TestFronts(t *testing.T) {
	accepted, refused := 0, 0
	many(t, 2, 600, func(t *testing.T, r *rand.Rand, x trip, c chart) {
		l, _ := cart.Front(x.roads, x.from, x.to, x.hour)
		times, _ := cart.Earliest(x.roads, x.from, x.hour)
		if e := cart.CheckFront(x.roads, x.from, x.to, x.hour, l, times); e != api.OK {
			t.Fatal("P5.12:", l, e)
		}
		for range 8 {
			some, told := slices.Clone(l), times
			switch n := r.IntN(4); {
			case n == 0 && len(some) > 0:
				i := r.IntN(len(some))
				some = slices.Delete(some, i, i+1)
			case n == 1 && len(some) > 0:
				i := r.IntN(len(some))
				some[i] = changed(r, some[i])
			case n == 2:
				told = changedTimes(r, times)
			default:
				some = append(some, journey(x.hour, 0))
			}
			want := api.ErrProof
			holds := slices.EqualFunc(some, pairs(some), func(j api.Journey, p [2]int) bool { return leads(x.roads, x.from, x.to, x.hour, j) })
			if proves(x.roads, x.from, x.hour, told) && holds && slices.Equal(pairs(some), c.front(x.to)) && slices.Equal(told.Hours[x.to], times.Hours[x.to]) {
				want = api.OK
				accepted++
			} else {
				refused++
			}
			if e := cart.CheckFront(x.roads, x.from, x.to, x.hour, some, told); e != want {
				t.Fatal("P5.4:", some, told, e, want)
			}
		}
		j, e := cart.Best(x.roads, x.from, x.to, x.hour, x.purse)
		if e == api.OK && !slices.Contains(pairs(l), [2]int{j.Toll, j.Arrival}) {
			t.Fatal("P5.12: Best is not in the front:", j, l)
		}
	})
	if accepted < 50 || refused < 500 {
		t.Error("too few lists of a sort:", accepted, refused)
	}
}

func TestBest(t *testing.T) {
	many(t, 3, 600, func(t *testing.T, r *rand.Rand, x trip, c chart) {
		for _, purse := range []int{0, x.purse, api.MaxPurse} {
			want := c.earliest(x.to, purse)
			j, e := cart.Best(x.roads, x.from, x.to, x.hour, purse)
			if want < 0 {
				if e != api.ErrNone || !equalJourneys(j, api.Journey{}) {
					t.Fatal("P5.5: Best:", purse, j, e)
				}
				continue
			}
			least := 0
			for c.earliest(x.to, least) != want {
				least++
			}
			if e != api.OK || j.Arrival != want || j.Toll != least || !leads(x.roads, x.from, x.to, x.hour, j) {
				t.Fatal("P5.5: Best:", purse, j, e, want, least)
			}
		}
	})
}

func TestExampleBest(t *testing.T) {
	r := exampleRoads()
	for _, x := range []struct{ from, to, hour, purse, arrival, toll int }{
		{0, 2, 4, 5, 17, 2}, {0, 2, 4, 60, 13, 6}, {0, 2, 4, 1, 26, 0}, {0, 2, 4, 6, 13, 6}, {0, 2, 2, 5, 12, 0}, {0, 2, 2, 6, 11, 6}, {1, 1, 9, 60, 9, 0}, {1, 1, api.MaxHour, 0, api.MaxHour, 0},
		{0, 1, api.MaxHour - 5, 0, api.MaxHour, 0},
	} {
		j, e := cart.Best(r, x.from, x.to, x.hour, x.purse)
		if e != api.OK || j.Arrival != x.arrival || j.Toll != x.toll || !leads(r, x.from, x.to, x.hour, j) {
			t.Error("P5.5:", x, j, e)
		}
	}
	for _, x := range []trip{{r, 2, 0, 4, 60}, {r, 0, 1, api.MaxHour - 4, 60}, {without(r, 1), 0, 2, 4, 5}} {
		if j, e := cart.Best(x.roads, x.from, x.to, x.hour, x.purse); e != api.ErrNone || !equalJourneys(j, api.Journey{}) {
			t.Error("P5.5:", x, j, e)
		}
	}
}

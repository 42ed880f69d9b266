package fire_test

import (
	"math/rand/v2"
	"slices"
	"testing"

	"calx/api"
	"calx/fire"
)

func spot(foot, hour int) api.Spot { return api.Spot{Foot: foot, Hour: hour} }

func span(lo, hi int) api.Span { return api.Span{Lo: lo, Hi: hi} }

// example is the fire of the chapter's examples.
func example() api.Fire {
	return api.Fire{
		Rise: 20, Fall: 10, Up: 5, Down: 30,
		Looks: []api.Look{
			{ID: 1, At: spot(10, 5), Heat: span(800, 900)},
			{ID: 2, At: spot(12, 8), Heat: span(700, 850)},
			{ID: 3, At: spot(10, 20), Heat: span(950, 1000)},
		},
	}
}

// broken is the example with a look that contradicts the first one.
func broken() api.Fire {
	return plus(example(), api.Look{ID: 4, At: spot(10, 6), Heat: span(600, 650)})
}

// wrong is the example with an error that Check finds, and that no other check does.
func wrong() api.Fire {
	f := example()
	f.Looks = make([]api.Look, api.MaxLooks+1)
	return f
}

// bare is the example without looks.
func bare() api.Fire {
	f := example()
	f.Looks = nil
	return f
}

// plus is a fire with further looks.
func plus(f api.Fire, more ...api.Look) api.Fire {
	f.Looks = append(slices.Clone(f.Looks), more...)
	return f
}

// less is a fire without one of its looks.
func less(f api.Fire, id int) api.Fire {
	var l []api.Look
	for _, x := range f.Looks {
		if x.ID != id {
			l = append(l, x)
		}
	}
	f.Looks = l
	return f
}

// walk is how far it is from a spot to another one, step by step.
func walk(f api.Fire, from, to api.Spot) int {
	sum := 0
	for from != to {
		switch {
		case from.Foot < to.Foot:
			from.Foot++
			sum += f.Up
		case from.Foot > to.Foot:
			from.Foot--
			sum += f.Down
		case from.Hour < to.Hour:
			from.Hour++
			sum += f.Rise
		default:
			from.Hour--
			sum += f.Fall
		}
	}
	return sum
}

// fields is all heats that some spots can have together. (What spots can have together, by how far they are from each other, some field gives them.)
type fields struct {
	spots []api.Spot
	all   [][]int
}

// fieldsOf counts out all heats of the looks' spots, and of some more.
func fieldsOf(f api.Fire, more ...api.Spot) fields {
	var s fields
	for _, x := range f.Looks {
		if !slices.Contains(s.spots, x.At) {
			s.spots = append(s.spots, x.At)
		}
	}
	for _, at := range more {
		if !slices.Contains(s.spots, at) {
			s.spots = append(s.spots, at)
		}
	}
	s.extend(f, nil)
	return s
}

// extend adds all fields that begin with some heats.
func (s *fields) extend(f api.Fire, heats []int) {
	if len(heats) == len(s.spots) {
		s.all = append(s.all, slices.Clone(heats))
		return
	}
	at := s.spots[len(heats)]
	lo, hi := 0, api.MaxHeat
	for i, heat := range heats {
		lo = max(lo, heat-walk(f, at, s.spots[i]))
		hi = min(hi, heat+walk(f, s.spots[i], at))
	}
	for _, x := range f.Looks {
		if x.At == at {
			lo, hi = max(lo, x.Heat.Lo), min(hi, x.Heat.Hi)
		}
	}
	for heat := lo; heat <= hi; heat++ {
		s.extend(f, append(heats, heat))
	}
}

// of is the heats that a field gives to spots.
func (s fields) of(field []int, l ...api.Spot) []int {
	var heats []int
	for _, at := range l {
		heats = append(heats, field[slices.Index(s.spots, at)])
	}
	return heats
}

// among is the least and the greatest of a number over all fields.
func (s fields) among(of func(field []int) int) api.Span {
	x := of(s.all[0])
	m := span(x, x)
	for _, field := range s.all {
		x := of(field)
		m = span(min(m.Lo, x), max(m.Hi, x))
	}
	return m
}

// ends is the least and the greatest heat of a spot.
func (s fields) ends(at api.Spot) api.Span {
	i := slices.Index(s.spots, at)
	return s.among(func(field []int) int { return field[i] })
}

// chance is a fire of a few looks that are near each other, made of a chosen heat so that they often, but not always, agree; and a path near them.
func chance(r *rand.Rand) (api.Fire, []api.Spot) {
	f := api.Fire{Rise: r.IntN(3), Fall: r.IntN(3), Up: r.IntN(3), Down: r.IntN(3)}
	foot := []int{0, 30, api.MaxFeet - 2}[r.IntN(3)]
	hour := []int{0, 1000, api.MaxHour - 3}[r.IntN(3)]
	heat := []int{r.IntN(5), 700, api.MaxHeat - r.IntN(5)}[r.IntN(3)]
	ids := r.Perm(30)
	for i := range 1 + r.IntN(3) {
		x := heat + r.IntN(4) - 1
		f.Looks = append(f.Looks, api.Look{
			ID:   ids[i] + 1,
			At:   spot(foot+r.IntN(3), hour+r.IntN(4)),
			Heat: span(min(max(x-r.IntN(2), 0), api.MaxHeat), min(max(x+r.IntN(2), 0), api.MaxHeat)),
		})
	}
	var path []api.Spot
	first := r.IntN(2)
	for i := range 3 {
		path = append(path, spot(foot+r.IntN(3), hour+first+i))
	}
	return f, path
}

// many calls a test with many fires, with paths, and with all fields of the looks and the path.
func many(t *testing.T, seed uint64, test func(t *testing.T, r *rand.Rand, f api.Fire, path []api.Spot, s fields)) {
	t.Helper()
	r := rand.New(rand.NewPCG(seed, 1))
	good, bad := 0, 0
	for i := range 500 {
		f, path := chance(r)
		if e := fire.Check(f); e != api.OK {
			t.Fatal("P2.1: a right fire:", e, f)
		}
		s := fieldsOf(f, path...)
		if len(s.all) > 0 {
			good++
		} else {
			bad++
		}
		test(t, r, f, path, s)
		if t.Failed() {
			t.Fatalf("fire %d: %+v, path %v", i, f, path)
		}
	}
	if good < 100 || bad < 50 {
		t.Error("too few fires of a sort:", good, bad)
	}
}

// great is a fire with as many looks as the limits allow, all of which some field keeps, and the heats of that field. The field is made of the hearths of the fire: places that are hottest around.
func great(seed uint64) (api.Fire, func(at api.Spot) int) {
	r := rand.New(rand.NewPCG(seed, 2))
	f := api.Fire{Rise: r.IntN(60), Fall: r.IntN(60), Up: r.IntN(100), Down: r.IntN(100)}
	type hearth struct {
		at   api.Spot
		heat int
	}
	var hearths []hearth
	for range 5 {
		hearths = append(hearths, hearth{spot(r.IntN(api.MaxFeet+1), r.IntN(40)), 500 + r.IntN(1001)})
	}
	heat := func(at api.Spot) int {
		most := 100
		for _, h := range hearths {
			most = max(most, h.heat-walk(f, at, h.at))
		}
		return most
	}
	for i := range api.MaxLooks {
		at := spot(r.IntN(api.MaxFeet+1), r.IntN(40))
		x := heat(at)
		f.Looks = append(f.Looks, api.Look{ID: api.MaxID - 7*i, At: at, Heat: span(max(0, x-r.IntN(150)), min(api.MaxHeat, x+r.IntN(150)))})
	}
	return f, heat
}

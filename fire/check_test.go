package fire_test

import (
	"math"
	"math/rand/v2"
	"testing"

	"calx/api"
	"calx/fire"
)

func TestCheckSlopes(t *testing.T) {
	for name, at := range map[string]func(f *api.Fire) *int{
		"Rise": func(f *api.Fire) *int { return &f.Rise },
		"Fall": func(f *api.Fire) *int { return &f.Fall },
		"Up":   func(f *api.Fire) *int { return &f.Up },
		"Down": func(f *api.Fire) *int { return &f.Down },
	} {
		for _, x := range []struct {
			slope int
			want  api.Errno
		}{{0, api.OK}, {-1, api.ErrArg}, {api.MaxSlope, api.OK}, {api.MaxSlope + 1, api.ErrArg}, {math.MinInt, api.ErrArg}, {math.MaxInt, api.ErrArg}} {
			f := bare()
			*at(&f) = x.slope
			if e := fire.Check(f); e != x.want {
				t.Error("P2.1:", name, x, e)
			}
			// The slopes come ahead of the number of looks.
			f.Looks = make([]api.Look, api.MaxLooks+1)
			want := api.ErrLimit
			if x.want != api.OK {
				want = api.ErrArg
			}
			if e := fire.Check(f); e != want {
				t.Error("P2.1: many looks:", name, x, e)
			}
		}
	}
}

func TestCheckLooks(t *testing.T) {
	for _, x := range []struct {
		name string
		look api.Look
		want api.Errno
	}{
		{"all least", api.Look{ID: 1}, api.OK},
		{"all greatest", api.Look{ID: api.MaxID, At: spot(api.MaxFeet, api.MaxHour), Heat: span(api.MaxHeat, api.MaxHeat)}, api.OK},
		{"all heats", api.Look{ID: 1, Heat: span(0, api.MaxHeat)}, api.OK},
		{"ID 0", api.Look{ID: 0}, api.ErrArg},
		{"ID below 0", api.Look{ID: -1}, api.ErrArg},
		{"ID too great", api.Look{ID: api.MaxID + 1}, api.ErrArg},
		{"Foot below 0", api.Look{ID: 1, At: spot(-1, 0)}, api.ErrArg},
		{"Foot too great", api.Look{ID: 1, At: spot(api.MaxFeet+1, 0)}, api.ErrArg},
		{"Hour below 0", api.Look{ID: 1, At: spot(0, -1)}, api.ErrArg},
		{"Hour too great", api.Look{ID: 1, At: spot(0, api.MaxHour+1)}, api.ErrArg},
		{"Hour greatest of all", api.Look{ID: 1, At: spot(0, math.MaxInt)}, api.ErrArg},
		{"Lo below 0", api.Look{ID: 1, Heat: span(-1, 0)}, api.ErrArg},
		{"Hi too great", api.Look{ID: 1, Heat: span(0, api.MaxHeat+1)}, api.ErrArg},
		{"Lo above Hi", api.Look{ID: 1, Heat: span(2, 1)}, api.ErrArg},
		{"no span at all", api.Look{ID: 1, Heat: span(math.MaxInt, math.MinInt)}, api.ErrArg},
	} {
		if e := fire.Check(plus(bare(), x.look)); e != x.want {
			t.Error("P2.1:", x.name, e)
		}
		if e := fire.Check(plus(bare(), api.Look{ID: 7}, x.look)); e != x.want {
			t.Error("P2.1: as the second one:", x.name, e)
		}
	}
	f := bare()
	for i := range api.MaxLooks {
		f.Looks = append(f.Looks, api.Look{ID: 1 + i})
	}
	if e := fire.Check(f); e != api.OK {
		t.Error("P2.1: as many looks as can be:", e)
	}
	if e := fire.Check(plus(f, api.Look{ID: 99})); e != api.ErrLimit {
		t.Error("P2.1: a look too many:", e)
	}
	if e := fire.Check(plus(f, api.Look{ID: 0})); e != api.ErrLimit {
		t.Error("P2.1: ErrLimit ahead of the looks:", e)
	}
}

func TestCheckTwice(t *testing.T) {
	for _, x := range []struct {
		name  string
		looks []api.Look
		want  api.Errno
	}{
		{"the same look twice", []api.Look{{ID: 5}, {ID: 5}}, api.ErrTwice},
		{"far behind", []api.Look{{ID: 5}, {ID: 6}, {ID: 5, Heat: span(1, 2)}}, api.ErrTwice},
		{"the same spot twice", []api.Look{{ID: 5}, {ID: 6}}, api.OK},
		{"ErrTwice of the second ahead of the third", []api.Look{{ID: 5}, {ID: 5}, {ID: 0}}, api.ErrTwice},
		{"ErrArg of the second ahead of the third", []api.Look{{ID: 5}, {ID: 0}, {ID: 5}}, api.ErrArg},
		{"ErrArg ahead of ErrTwice", []api.Look{{ID: 5}, {ID: 5, Heat: span(2, 1)}}, api.ErrArg},
	} {
		if e := fire.Check(plus(bare(), x.looks...)); e != x.want {
			t.Error("P2.1:", x.name, e)
		}
	}
}

func TestFar(t *testing.T) {
	for _, x := range []struct {
		from, to api.Spot
		far      int
		want     api.Errno
	}{
		{spot(10, 5), spot(12, 8), 70, api.OK},
		{spot(12, 8), spot(10, 5), 90, api.OK},
		{spot(10, 5), spot(10, 5), 0, api.OK},
		{spot(10, 5), spot(10, 6), 20, api.OK},
		{spot(10, 6), spot(10, 5), 10, api.OK},
		{spot(10, 5), spot(11, 5), 5, api.OK},
		{spot(11, 5), spot(10, 5), 30, api.OK},
		{spot(11, 5), spot(10, 6), 50, api.OK},
		{spot(10, 6), spot(11, 5), 15, api.OK},
		{spot(0, 0), spot(api.MaxFeet, api.MaxHour), 60*5 + 16384*20, api.OK},
		{spot(api.MaxFeet, api.MaxHour), spot(0, 0), 60*30 + 16384*10, api.OK},
		{spot(-1, 0), spot(0, 0), 0, api.ErrArg},
		{spot(0, 0), spot(0, -1), 0, api.ErrArg},
		{spot(api.MaxFeet+1, 0), spot(0, 0), 0, api.ErrArg},
		{spot(0, 0), spot(0, api.MaxHour+1), 0, api.ErrArg},
		{spot(math.MinInt, 0), spot(math.MaxInt, 0), 0, api.ErrArg},
	} {
		// How far it is has nothing to do with looks, even with those that contradict each other.
		for _, f := range []api.Fire{example(), bare(), broken()} {
			if far, e := fire.Far(f, x.from, x.to); far != x.far || e != x.want {
				t.Error("P2.1:", x, far, e)
			}
		}
		if far, e := fire.Far(wrong(), x.from, x.to); far != 0 || e != api.ErrLimit {
			t.Error("P2.1: the fire first:", x, far, e)
		}
	}
	r := rand.New(rand.NewPCG(3, 1))
	for range 500 {
		f := api.Fire{Rise: r.IntN(201), Fall: r.IntN(201), Up: r.IntN(201), Down: r.IntN(201)}
		a, b := spot(r.IntN(61), r.IntN(300)), spot(r.IntN(61), r.IntN(300))
		if far, e := fire.Far(f, a, b); far != walk(f, a, b) || e != api.OK {
			t.Error("P2.1:", f, a, b, far, e)
		}
	}
}

package shaft_test

import (
	"math"
	"slices"
	"testing"

	"calx/api"
	"calx/shaft"
)

// change is a change of the example, and what Check answers then.
type change struct {
	name   string
	change func(k *api.Kiln)
	want   api.Errno
}

func changes() []change {
	l := []change{
		{"none", func(k *api.Kiln) {}, api.OK},
		{"nothing in it", func(k *api.Kiln) { *k = api.Kiln{PerFoot: 1} }, api.OK},
		{"Room 0", func(k *api.Kiln) { k.Room = 0 }, api.OK},
		{"Room below", func(k *api.Kiln) { k.Room = -1 }, api.ErrArg},
		{"Room greatest", func(k *api.Kiln) { k.Room = api.MaxRoom }, api.OK},
		{"Room above", func(k *api.Kiln) { k.Room = api.MaxRoom + 1 }, api.ErrArg},
		{"PerFoot least", func(k *api.Kiln) { k.PerFoot = 1 }, api.OK},
		{"PerFoot below", func(k *api.Kiln) { k.PerFoot = 0 }, api.ErrArg},
		{"PerFoot greatest", func(k *api.Kiln) { k.PerFoot = api.MaxPerFoot }, api.OK},
		{"PerFoot above", func(k *api.Kiln) { k.PerFoot = api.MaxPerFoot + 1 }, api.ErrArg},
		{"many loads", func(k *api.Kiln) { k.Loads = make([]api.Load, api.MaxLoads+1) }, api.ErrLimit},
		{"many draws", func(k *api.Kiln) { k.Draws = make([]api.Draw, api.MaxDraws+1) }, api.ErrLimit},
		{"many weighings", func(k *api.Kiln) { k.Weighs = make([]api.Weigh, api.MaxWeighs+1) }, api.ErrLimit},
		{"Room ahead of many loads", func(k *api.Kiln) { k.Room = -1; k.Loads = make([]api.Load, api.MaxLoads+1) }, api.ErrArg},
		{"many weighings ahead of a load", func(k *api.Kiln) { k.Loads[0].ID = 0; k.Weighs = make([]api.Weigh, 99) }, api.ErrLimit},
	}
	number := func(name string, at func(k *api.Kiln) *int, x int, want api.Errno) {
		l = append(l, change{name, func(k *api.Kiln) { *at(k) = x }, want})
	}
	for _, x := range []struct {
		id   int
		want api.Errno
	}{{0, api.ErrArg}, {-5, api.ErrArg}, {5, api.OK}, {api.MaxID, api.OK}, {api.MaxID + 1, api.ErrArg}, {math.MinInt, api.ErrArg}, {math.MaxInt, api.ErrArg}} {
		number("load's ID", func(k *api.Kiln) *int { return &k.Loads[2].ID }, x.id, x.want)
		number("draw's ID", func(k *api.Kiln) *int { return &k.Draws[1].ID }, x.id, x.want)
		number("weighing's ID", func(k *api.Kiln) *int { return &k.Weighs[1].ID }, x.id, x.want)
	}
	for _, x := range []struct {
		name string
		at   func(k *api.Kiln) *int
		x    int
		want api.Errno
	}{
		{"first load's Hour", firstLoad, -1, api.ErrArg}, {"first load's Hour", firstLoad, 0, api.OK},
		{"first load's Hour", firstLoad, 2, api.OK}, {"first load's Hour", firstLoad, 3, api.ErrArg},
		{"last load's Hour", lastLoad, 1, api.ErrArg}, {"last load's Hour", lastLoad, 2, api.OK},
		{"last load's Hour", lastLoad, api.MaxHour, api.OK}, {"last load's Hour", lastLoad, api.MaxHour + 1, api.ErrArg},
		{"first draw's Hour", firstDraw, -1, api.ErrArg}, {"first draw's Hour", firstDraw, 0, api.OK},
		{"first draw's Hour", firstDraw, 8, api.OK}, {"first draw's Hour", firstDraw, 9, api.ErrArg},
		{"last draw's Hour", lastDraw, 3, api.ErrArg}, {"last draw's Hour", lastDraw, 4, api.OK},
		{"last draw's Hour", lastDraw, api.MaxHour, api.OK}, {"last draw's Hour", lastDraw, api.MaxHour + 1, api.ErrArg},
	} {
		number(x.name, x.at, x.x, x.want)
	}
	return l
}

func firstLoad(k *api.Kiln) *int { return &k.Loads[0].Hour }
func lastLoad(k *api.Kiln) *int  { return &k.Loads[2].Hour }
func firstDraw(k *api.Kiln) *int { return &k.Draws[0].Hour }
func lastDraw(k *api.Kiln) *int  { return &k.Draws[1].Hour }

func TestCheck(t *testing.T) {
	for _, x := range changes() {
		k := example()
		x.change(&k)
		if e := shaft.Check(k); e != x.want {
			t.Errorf("P1.1: %s: %d, want %d: %+v", x.name, e, x.want, k)
		}
	}
}

func TestCheckSpans(t *testing.T) {
	for _, x := range []struct {
		s          api.Span
		load, held api.Errno
	}{
		{api.Span{Lo: 0, Hi: 0}, api.OK, api.OK},
		{api.Span{Lo: -1, Hi: 0}, api.ErrArg, api.ErrArg},
		{api.Span{Lo: 2, Hi: 1}, api.ErrArg, api.ErrArg},
		{api.Span{Lo: 1, Hi: 1}, api.OK, api.OK},
		{api.Span{Lo: 0, Hi: api.MaxWeight}, api.OK, api.OK},
		{api.Span{Lo: 0, Hi: api.MaxWeight + 1}, api.ErrArg, api.OK},
		{api.Span{Lo: api.MaxRoom, Hi: api.MaxRoom}, api.ErrArg, api.OK},
		{api.Span{Lo: 0, Hi: api.MaxRoom + 1}, api.ErrArg, api.ErrArg},
		{api.Span{Lo: math.MinInt, Hi: math.MaxInt}, api.ErrArg, api.ErrArg},
		{api.Span{Lo: math.MaxInt, Hi: math.MinInt}, api.ErrArg, api.ErrArg},
	} {
		k := example()
		k.Loads[1].Weight = x.s
		if e := shaft.Check(k); e != x.load {
			t.Error("P1.1: load:", x.s, e)
		}
		k = example()
		k.Draws[1].Weight = x.s
		if e := shaft.Check(k); e != x.load {
			t.Error("P1.1: draw:", x.s, e)
		}
		for i := range 2 {
			k = example()
			k.Weighs[i].Sum = x.s
			if e := shaft.Check(k); e != x.held {
				t.Error("P1.1: weighing:", i, x.s, e)
			}
		}
	}
}

func TestCheckWeighs(t *testing.T) {
	for _, x := range []struct {
		kind, from, to int
		want           api.Errno
	}{
		{api.WgLoads, 1, 3, api.OK}, {api.WgLoads, 2, 2, api.OK}, {api.WgLoads, 3, 1, api.ErrArg},
		{api.WgLoads, 1, 11, api.ErrArg}, {api.WgLoads, 11, 12, api.ErrArg}, {api.WgLoads, 0, 3, api.ErrArg}, {api.WgLoads, 4, 4, api.ErrArg}, {api.WgLoads, 21, 21, api.ErrArg},
		{api.WgDraws, 11, 12, api.OK}, {api.WgDraws, 12, 12, api.OK}, {api.WgDraws, 12, 11, api.ErrArg},
		{api.WgDraws, 1, 2, api.ErrArg}, {api.WgDraws, 1, 12, api.ErrArg}, {api.WgDraws, 11, 0, api.ErrArg},
		{api.WgHeld, 0, 0, api.OK}, {api.WgHeld, api.MaxHour, 0, api.OK}, {api.WgHeld, -1, 0, api.ErrArg}, {api.WgHeld, api.MaxHour + 1, 0, api.ErrArg},
		{api.WgHeld, 3, -1, api.ErrArg}, {api.WgHeld, 3, 1, api.ErrArg},
		{0, 1, 2, api.ErrArg}, {4, 0, 0, api.ErrArg}, {-1, 0, 0, api.ErrArg},
	} {
		k := example()
		k.Weighs[0].Kind, k.Weighs[0].From, k.Weighs[0].To = x.kind, x.from, x.to
		if e := shaft.Check(k); e != x.want {
			t.Error("P1.1:", x, e)
		}
	}
	// IDs count by their places, not by their sizes.
	k := example()
	k.Loads[0].ID = 90
	k.Weighs[0].From = 90
	if e := shaft.Check(k); e != api.OK {
		t.Error("P1.1: a great ID ahead:", e)
	}
}

func TestCheckTwice(t *testing.T) {
	for i, id := range []int{1, 2, 3, 11, 12, 21} {
		k := example()
		k.Weighs[1].ID = id
		if e := shaft.Check(k); e != api.ErrTwice {
			t.Error("P1.1:", id, e)
		}
		k = example()
		k.Draws[1].ID = id
		want := api.ErrTwice
		if id == 12 {
			want = api.OK
		}
		if e := shaft.Check(k); e != want {
			t.Error("P1.1:", id, e)
		}
		if i >= 2 {
			continue
		}
		k = example()
		k.Loads[2].ID = id
		if e := shaft.Check(k); e != api.ErrTwice {
			t.Error("P1.1:", id, e)
		}
	}
	// Both errors of an element come ahead of those of the next one, and ErrArg of an element ahead of its ErrTwice.
	k := example()
	k.Loads[1].ID = 1
	k.Loads[2].Hour = -1
	if e := shaft.Check(k); e != api.ErrTwice {
		t.Error("P1.1: the second element first:", e)
	}
	k.Loads[1].Hour = -1
	if e := shaft.Check(k); e != api.ErrArg {
		t.Error("P1.1: ErrArg first:", e)
	}
	k = example()
	k.Draws[0].ID = 1
	k.Weighs[0].Kind = 9
	if e := shaft.Check(k); e != api.ErrTwice {
		t.Error("P1.1: a draw ahead of a weighing:", e)
	}
	k = example()
	k.Weighs[0].ID = 11
	k.Draws[1].Hour = 0
	if e := shaft.Check(k); e != api.ErrArg {
		t.Error("P1.1: a draw ahead of a weighing:", e)
	}
}

func TestTies(t *testing.T) {
	want := []api.Tie{
		{From: 0, To: 1, Most: 30, ID: 1}, {From: 1, To: 0, Most: -20, ID: 1},
		{From: 1, To: 2, Most: 15, ID: 2}, {From: 2, To: 1, Most: -10, ID: 2},
		{From: 2, To: 3, Most: 40, ID: 3}, {From: 3, To: 2, Most: -20, ID: 3},
		{From: 0, To: 4, Most: 18, ID: 11}, {From: 4, To: 0, Most: -15, ID: 11},
		{From: 4, To: 5, Most: 25, ID: 12}, {From: 5, To: 4, Most: -20, ID: 12},
		{From: 0, To: 2, Most: 40, ID: 21}, {From: 2, To: 0, Most: -36, ID: 21},
		{From: 4, To: 3, Most: 55, ID: 22}, {From: 3, To: 4, Most: -50, ID: 22},
		{From: 2, To: 4}, {From: 3, To: 5},
		{From: 0, To: 1, Most: 100}, {From: 0, To: 2, Most: 100}, {From: 4, To: 3, Most: 100},
	}
	if l, e := shaft.Ties(example()); e != api.OK || !slices.Equal(l, want) {
		t.Error("P1.2:", l, e)
	}
	if l, e := shaft.Ties(empty()); e != api.OK || len(l) != 0 {
		t.Error("P1.2:", l, e)
	}
	if l, e := shaft.Ties(wrong()); e != api.ErrArg || l != nil {
		t.Error("P1.2:", l, e)
	}
}

// TestTiesAtBounds: a draw ahead of all loads, things of the same hour, weighings of draws, and of nothing.
func TestTiesAtBounds(t *testing.T) {
	k := api.Kiln{
		Room: 9, PerFoot: 1,
		Loads: []api.Load{{ID: 8, Hour: 2, Weight: api.Span{Lo: 1, Hi: 2}}, {ID: 7, Hour: 4, Weight: api.Span{Hi: 3}}},
		Draws: []api.Draw{{ID: 6, Hour: 1, Weight: api.Span{Hi: 1}}, {ID: 5, Hour: 2, Weight: api.Span{Hi: 4}}, {ID: 4, Hour: 4, Weight: api.Span{Lo: 5, Hi: 5}}},
		Weighs: []api.Weigh{
			{ID: 3, Kind: api.WgDraws, From: 5, To: 4, Sum: api.Span{Lo: 5, Hi: 6}},
			{ID: 2, Kind: api.WgHeld, From: 0, Sum: api.Span{Lo: 0, Hi: 1}},
			{ID: 1, Kind: api.WgHeld, From: 2, Sum: api.Span{Lo: 1, Hi: 7}},
			{ID: 9, Kind: api.WgDraws, From: 6, To: 6, Sum: api.Span{Lo: 0, Hi: 8}},
		},
	}
	want := []api.Tie{
		{From: 0, To: 1, Most: 2, ID: 8}, {From: 1, To: 0, Most: -1, ID: 8},
		{From: 1, To: 2, Most: 3, ID: 7}, {From: 2, To: 1, Most: 0, ID: 7},
		{From: 0, To: 3, Most: 1, ID: 6}, {From: 3, To: 0, Most: 0, ID: 6},
		{From: 3, To: 4, Most: 4, ID: 5}, {From: 4, To: 3, Most: 0, ID: 5},
		{From: 4, To: 5, Most: 5, ID: 4}, {From: 5, To: 4, Most: -5, ID: 4},
		{From: 3, To: 5, Most: 6, ID: 3}, {From: 5, To: 3, Most: -5, ID: 3},
		{From: 0, To: 0, Most: 1, ID: 2}, {From: 0, To: 0, Most: 0, ID: 2},
		{From: 4, To: 1, Most: 7, ID: 1}, {From: 1, To: 4, Most: -1, ID: 1},
		{From: 0, To: 3, Most: 8, ID: 9}, {From: 3, To: 0, Most: 0, ID: 9},
		{From: 0, To: 3}, {From: 1, To: 4}, {From: 2, To: 5},
		{From: 3, To: 1, Most: 9}, {From: 4, To: 2, Most: 9},
	}
	if l, e := shaft.Ties(k); e != api.OK || !slices.Equal(l, want) {
		t.Error("P1.2:", l, e)
	}
}

func TestFits(t *testing.T) {
	for _, x := range []struct {
		loads, draws []int
		index        int
		fits         bool
		want         api.Errno
	}{
		{[]int{25, 12, 30}, []int{16, 22}, 0, true, api.OK},
		{[]int{31, 12, 30}, []int{16, 22}, 0, false, api.OK},
		{[]int{19, 12, 30}, []int{16, 22}, 1, false, api.OK},
		{[]int{25, 10, 30}, []int{16, 22}, 11, false, api.OK},
		{[]int{25, 12, 30}, []int{16, 26}, 8, false, api.OK},
		{[]int{api.MaxRoom, 12, 30}, []int{16, 22}, 0, false, api.OK},
		{[]int{25, 12, 0}, []int{0, api.MaxRoom}, 5, false, api.OK},
		{[]int{api.MaxRoom + 1, 12, 30}, []int{16, 22}, 0, false, api.ErrArg},
		{[]int{25, 12, 30}, []int{16, api.MaxRoom + 1}, 0, false, api.ErrArg},
		{[]int{25, -1, 30}, []int{16, 22}, 0, false, api.ErrArg},
		{[]int{25, 12, 30}, []int{-1, 22}, 0, false, api.ErrArg},
		{[]int{math.MaxInt, math.MaxInt, 30}, []int{16, 22}, 0, false, api.ErrArg},
		{[]int{25, 12}, []int{16, 22}, 0, false, api.ErrArg},
		{[]int{25, 12, 30, 1}, []int{16, 22}, 0, false, api.ErrArg},
		{[]int{25, 12, 30}, []int{16}, 0, false, api.ErrArg},
		{[]int{25, 12, 30}, nil, 0, false, api.ErrArg},
	} {
		i, fits, e := shaft.Fits(example(), api.Truth{Loads: x.loads, Draws: x.draws})
		if i != x.index || fits != x.fits || e != x.want {
			t.Error("P1.2:", x, i, fits, e)
		}
	}
	if i, fits, e := shaft.Fits(empty(), api.Truth{}); i != 0 || !fits || e != api.OK {
		t.Error("P1.2:", i, fits, e)
	}
	k := example()
	k.Loads[0].ID = 0
	if i, fits, e := shaft.Fits(k, api.Truth{}); i != 0 || fits || e != api.ErrArg {
		t.Error("P1.2:", i, fits, e)
	}
	k.Loads = make([]api.Load, 99)
	if _, fits, e := shaft.Fits(k, api.Truth{}); fits || e != api.ErrLimit {
		t.Error("P1.2: the error of the kiln first:", fits, e)
	}
}

// TestTruth: weights fit just if they are true in the words of the kiln, and the tie is the first one that they break.
func TestTruth(t *testing.T) {
	many(t, 1, func(t *testing.T, k api.Kiln, all []api.Truth) {
		ties, _ := shaft.Ties(k)
		var spans []api.Span
		for _, l := range k.Loads {
			spans = append(spans, api.Span{Lo: max(0, l.Weight.Lo-1), Hi: l.Weight.Lo + 1})
		}
		for _, d := range k.Draws {
			spans = append(spans, api.Span{Lo: d.Weight.Lo, Hi: d.Weight.Lo + 1})
		}
		for _, l := range tuples(spans) {
			x := api.Truth{Loads: l[:len(k.Loads)], Draws: l[len(k.Loads):]}
			first := slices.IndexFunc(ties, func(tie api.Tie) bool {
				return height(k, x, tie.To)-height(k, x, tie.From) > tie.Most
			})
			i, fits, e := shaft.Fits(k, x)
			if e != api.OK || fits != isTrue(k, x) || fits != (first < 0) || i != max(first, 0) {
				t.Fatal("P1.2:", x, i, fits, e, first)
			}
		}
	})
}

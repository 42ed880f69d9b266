package works_test

import (
	"slices"
	"testing"

	"calx/api"
	"calx/works"
)

// standing returns the IDs of the writs that stand.
func standing(t *testing.T, l []api.Writ, known int) []int {
	t.Helper()
	stand, e := works.Stand(site(), l, known)
	if e != api.OK {
		t.Error("P10.2:", e)
	}
	var ids []int
	for _, w := range stand {
		if i := slices.IndexFunc(l, func(x api.Writ) bool { return x.ID == w.ID }); l[i] != w {
			t.Error("P10.2: a writ is changed:", w)
		}
		ids = append(ids, w.ID)
	}
	return ids
}

func TestStand(t *testing.T) {
	one, two := load(1, 0, 1, 2), draw(2, 0, 1, 2)
	for _, x := range []struct {
		name  string
		l     []api.Writ
		known int
		want  []int
	}{
		{"none", nil, 0, nil},
		{"by ID", writs(two, one), 0, list(1, 2)},
		{"not yet known", join(on(1, two), writs(one)), 0, list(1)},
		{"known on the day", join(on(1, two), writs(one)), 1, list(1, 2)},
		{"known on the last day", on(api.MaxDay, two), api.MaxDay, list(2)},
		{"withdrawn", writs(one, two, back(3, 1)), 0, list(2)},
		{"withdrawn ahead of it", writs(back(3, 1), one, two), 0, list(2)},
		{"withdrawn later", join(writs(one, two), on(5, back(3, 1))), 4, list(1, 2)},
		{"withdrawn on the day", join(writs(one, two), on(5, back(3, 1))), 5, list(2)},
		{"known when it is withdrawn already", join(on(5, one), writs(back(3, 1))), 5, nil},
		{"a withdrawal that is withdrawn", writs(one, back(3, 1), back(4, 3)), 0, nil},
		{"withdrawn by itself", writs(one, back(3, 3)), 0, list(1)},
		{"withdrawn twice", writs(one, two, back(3, 1), back(4, 1)), 0, list(2)},
		{"nothing is withdrawn", writs(one, back(3, 9)), 0, list(1)},
		{"an ID that a load names is no writ", writs(back(3, 11), pour(41, 0, 0, 11, 5)), 0, list(41)},
		{"the example at first", exampleWrits(), 2, list(1, 2, 11, 12, 21, 31, 41, 42)},
		{"the example", exampleWrits(), 3, list(1, 2, 11, 12, 31, 41, 42)},
	} {
		if got := standing(t, x.l, x.known); !slices.Equal(got, x.want) {
			t.Error("P10.2:", x.name, got)
		}
	}
}

// TestKilnOrder: loads and draws by hour, and then by ID; weighings by ID.
func TestKilnOrder(t *testing.T) {
	l := writs(load(5, 3, 1, 2), load(9, 1, 2, 3), load(2, 3, 3, 4), load(7, 0, 4, 5), draw(8, 9, 1, 1), draw(6, 9, 1, 1), draw(1, 4, 1, 1),
		weigh(30, api.WgHeld, 0, 0, 0, 9), weigh(12, api.WgLoads, 9, 5, 0, 99), weigh(20, api.WgDraws, 1, 8, 3, 3), look(40, 1, 1, 5, 6))
	want := api.Kiln{Room: 100, PerFoot: 10,
		Loads:  []api.Load{{ID: 7, Hour: 0, Weight: span(4, 5)}, {ID: 9, Hour: 1, Weight: span(2, 3)}, {ID: 2, Hour: 3, Weight: span(3, 4)}, {ID: 5, Hour: 3, Weight: span(1, 2)}},
		Draws:  []api.Draw{{ID: 1, Hour: 4, Weight: span(1, 1)}, {ID: 6, Hour: 9, Weight: span(1, 1)}, {ID: 8, Hour: 9, Weight: span(1, 1)}},
		Weighs: []api.Weigh{{ID: 12, Kind: api.WgLoads, From: 9, To: 5, Sum: span(0, 99)}, {ID: 20, Kind: api.WgDraws, From: 1, To: 8, Sum: span(3, 3)}, {ID: 30, Kind: api.WgHeld, Sum: span(0, 9)}},
	}
	if k, e := works.KilnOf(site(), l, 0); !equalKilns(k, want) || e != api.OK {
		t.Error("P10.2:", k, e)
	}
}

// TestFireOrder: looks by ID.
func TestFireOrder(t *testing.T) {
	l := writs(look(5, 1, 9, 5, 6), load(3, 1, 1, 1), look(4, 2, 3, 7, 8), look(6, 0, 0, 0, 1500))
	want := api.Fire{Rise: 20, Fall: 10, Up: 5, Down: 30, Looks: []api.Look{
		{ID: 4, At: api.Spot{Foot: 2, Hour: 3}, Heat: span(7, 8)}, {ID: 5, At: api.Spot{Foot: 1, Hour: 9}, Heat: span(5, 6)}, {ID: 6, Heat: span(0, 1500)}}}
	if f, e := works.FireOf(site(), l, 0); !equalFires(f, want) || e != api.OK {
		t.Error("P10.2:", f, e)
	}
	// Looks that contradict each other are a fire, too.
	if f, e := works.FireOf(site(), writs(look(1, 0, 0, 0, 0), look(2, 0, 0, 1, 1)), 0); len(f.Looks) != 2 || e != api.OK {
		t.Error("P10.2:", f, e)
	}
}

// TestPitsOrder: steps by day, and then by ID.
func TestPitsOrder(t *testing.T) {
	l := writs(take(70, 5, 0, 3), pour(60, 1, 0, 20, 30), turn(8, 5, 0), move(9, 5, 0, 1, 4), draw(20, 0, 1, 1), spill(61, 1, 0, 2), pour(80, 5, 1, 21, 7), draw(21, 0, 1, 1))
	want := api.Pits{Rooms: list(100, 50), Stirs: []api.Stir{
		{ID: 20, Kind: api.StPour, Day: 1, Amount: 30}, {Kind: api.StSpill, Day: 1, Amount: 2}, {Kind: api.StTurn, Day: 5}, {Kind: api.StMove, Day: 5, To: 1, Amount: 4},
		{ID: 70, Kind: api.StTake, Day: 5, Amount: 3}, {ID: 21, Kind: api.StPour, Day: 5, Pit: 1, Amount: 7}}}
	if p, e := works.PitsOf(site(), l, 0); !equalPits(p, want) || e != api.OK {
		t.Error("P10.2:", p, e)
	}
}

// TestLayers: errors of the layers below.
func TestLayers(t *testing.T) {
	many := func(n int, make func(id int) api.Writ) []api.Writ {
		var l []api.Writ
		for i := range n {
			l = append(l, make(i+1))
		}
		return l
	}
	loads := func(n int) []api.Writ { return many(n, func(id int) api.Writ { return load(id, 0, 0, 1) }) }
	draws := func(n int) []api.Writ { return many(n, func(id int) api.Writ { return draw(id, 0, 0, 1) }) }
	weighs := func(n int) []api.Writ {
		return many(n, func(id int) api.Writ { return weigh(id, api.WgHeld, 0, 0, 0, 1) })
	}
	looks := func(n int) []api.Writ { return many(n, func(id int) api.Writ { return look(id, 0, 0, 0, 1) }) }
	poured := join(draws(3), writs(pour(11, 1, 0, 1, 10)))
	for _, x := range []struct {
		name             string
		l                []api.Writ
		kiln, fire, pits api.Errno
	}{
		{"as many loads as can be", loads(20), 0, 0, 0},
		{"too many loads", loads(21), api.ErrLimit, 0, 0},
		{"too many loads, but one is withdrawn", join(loads(21), writs(back(50, 3))), 0, 0, 0},
		{"too many draws", draws(21), api.ErrLimit, 0, 0},
		{"too many weighings", weighs(21), api.ErrLimit, 0, 0},
		{"as many looks as can be", looks(24), 0, 0, 0},
		{"too many looks", looks(25), 0, api.ErrLimit, 0},
		{"a weighing of no load", writs(load(1, 0, 1, 1), weigh(2, api.WgLoads, 1, 3, 1, 1)), api.ErrArg, 0, 0},
		{"a weighing of a draw as of a load", writs(load(1, 0, 1, 1), draw(3, 0, 1, 1), weigh(2, api.WgLoads, 1, 3, 1, 1)), api.ErrArg, 0, 0},
		{"a weighing backwards", writs(load(1, 0, 1, 1), load(3, 0, 1, 1), weigh(2, api.WgLoads, 3, 1, 1, 1)), api.ErrArg, 0, 0},
		{"a weighing forwards, by hours", writs(load(1, 5, 1, 1), load(3, 0, 1, 1), weigh(2, api.WgLoads, 3, 1, 1, 1)), 0, 0, 0},
		{"a weighing of a load that is withdrawn", writs(load(1, 0, 1, 1), weigh(2, api.WgLoads, 1, 1, 1, 1), back(9, 1)), api.ErrArg, 0, 0},
		{"a weighing of a load that is not known yet", join(on(1, load(1, 0, 1, 1)), writs(weigh(2, api.WgLoads, 1, 1, 1, 1))), api.ErrArg, 0, 0},
		{"weights that cannot be", writs(load(1, 0, 5, 5), weigh(2, api.WgLoads, 1, 1, 9, 9)), 0, 0, 0},
		{"a pour of no draw", writs(pour(1, 0, 0, 9, 5)), 0, 0, api.ErrNone},
		{"a pour of a load", writs(load(9, 0, 1, 1), pour(1, 0, 0, 9, 5)), 0, 0, api.ErrNone},
		{"a pour of a draw that is withdrawn", join(poured, writs(back(50, 1))), 0, 0, api.ErrNone},
		{"a pour of a draw that is not known yet", join(on(1, draw(9, 0, 1, 1)), writs(pour(1, 0, 0, 9, 5))), 0, 0, api.ErrNone},
		{"a pour of its own ID", writs(pour(9, 0, 0, 9, 5)), 0, 0, api.ErrNone},
		{"a pour", poured, 0, 0, 0},
		{"a draw poured twice", join(poured, writs(pour(12, 1, 0, 1, 10))), 0, 0, api.ErrTwice},
		{"no draw poured twice", writs(pour(11, 1, 0, 9, 10), pour(12, 1, 0, 9, 10)), 0, 0, api.ErrTwice},
		{"a barrow that has the ID of a pour", join(poured, writs(pour(13, 1, 0, 12, 5), take(12, 1, 0, 5))), 0, 0, api.ErrTwice},
		{"too little in a pit", join(poured, writs(take(12, 1, 0, 11))), 0, 0, api.ErrState},
		{"nothing yet in a pit", join(poured, writs(take(12, 0, 0, 1))), 0, 0, api.ErrState},
		{"nothing yet in a pit, by the ID", join(poured, writs(take(10, 1, 0, 1))), 0, 0, api.ErrState},
		{"just enough in a pit", join(poured, writs(take(12, 1, 0, 10))), 0, 0, 0},
		{"too much in a pit", join(poured, writs(pour(12, 1, 0, 2, 91))), 0, 0, api.ErrLimit},
		{"too little in a pit, and a pour of no draw", writs(pour(11, 1, 0, 9, 10), spill(12, 1, 0, 11)), 0, 0, api.ErrState},
	} {
		k, e1 := works.KilnOf(site(), x.l, 0)
		f, e2 := works.FireOf(site(), x.l, 0)
		p, e3 := works.PitsOf(site(), x.l, 0)
		if e1 != x.kiln || e2 != x.fire || e3 != x.pits {
			t.Error("P10.2:", x.name, e1, e2, e3)
		}
		if (e1 == api.OK) == isNothing(k) || (e2 == api.OK) == isNothing(f) || (e3 == api.OK) == isNothing(p) {
			t.Error("P10.2:", x.name, k, f, p)
		}
	}
}

// TestRange: a part that is not fine is told by PitsOf, too.
func TestRange(t *testing.T) {
	s := site()
	s.Rooms = list(4096)
	l := writs(draw(1, 0, 1, 1), draw(2, 0, 1, 1), draw(3, 0, 1, 1), pour(11, 1, 0, 1, 127), pour(12, 1, 0, 2, 1), turn(13, 2, 0), take(14, 3, 0, 1),
		pour(15, 4, 0, 3, 4), turn(16, 5, 0), take(17, 6, 0, 1))
	if _, e := works.PitsOf(s, l, 0); e != api.ErrRange {
		t.Error("P10.2:", e)
	}
	if r := works.Answer(s, l, barrow(14, 0)); !equalReplies(r, api.Reply{Err: api.ErrRange}) {
		t.Error("P10.9:", r)
	}
}

// TestStandMuch compares what is made of writs with the chapter's own words.
func TestStandMuch(t *testing.T) {
	found := map[api.Errno]int{}
	for seed := range uint64(400) {
		c := chanceOf(100 + seed)
		w := c.wild()
		for known := range 11 {
			stand, e := works.Stand(w.site, w.writs, known)
			if !slices.Equal(stand, standBy(w.writs, known)) || e != api.OK {
				t.Error("P10.2:", seed, known, stand, e)
			}
			k, e := works.KilnOf(w.site, w.writs, known)
			if want, f := kilnBy(w.site, w.writs, known); !equalKilns(k, want) || e != f {
				t.Error("P10.2:", seed, known, k, e)
			}
			found[e]++
			f, e := works.FireOf(w.site, w.writs, known)
			if want, g := fireBy(w.site, w.writs, known); !equalFires(f, want) || e != g {
				t.Error("P10.2:", seed, known, f, e)
			}
			p, e := works.PitsOf(w.site, w.writs, known)
			if want, f := pitsBy(w.site, w.writs, known); !equalPits(p, want) || e != f {
				t.Error("P10.2:", seed, known, p, e)
			}
			found[e]++
		}
	}
	for _, e := range []api.Errno{api.OK, api.ErrArg, api.ErrNone, api.ErrTwice, api.ErrState} {
		if found[e] < 10 {
			t.Error("P10.2: too few cases:", e, found[e])
		}
	}
}

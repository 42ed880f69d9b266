package works_test

import (
	"math"
	"reflect"
	"slices"
	"testing"

	"calx/api"
	"calx/works"
)

// rightSites are sites at the limits.
func rightSites() []api.Site {
	return []api.Site{
		site(),
		{PerFoot: 1, Rooms: list(1)},
		{Room: api.MaxRoom, PerFoot: api.MaxPerFoot, Rise: api.MaxSlope, Fall: api.MaxSlope, Up: api.MaxSlope, Down: api.MaxSlope, Rooms: slices.Repeat(list(api.MaxHold), api.MaxPits)},
	}
}

// wrongSites are sites of which one thing is wrong.
func wrongSites() []api.Site {
	var l []api.Site
	add := func(change func(s *api.Site)) {
		s := site()
		change(&s)
		l = append(l, s)
	}
	for _, n := range append(odd(), api.MaxRoom+1) {
		add(func(s *api.Site) { s.Room = n })
	}
	for _, n := range append(odd(), 0, api.MaxPerFoot+1) {
		add(func(s *api.Site) { s.PerFoot = n })
	}
	for _, n := range append(odd(), api.MaxSlope+1) {
		add(func(s *api.Site) { s.Rise = n })
		add(func(s *api.Site) { s.Fall = n })
		add(func(s *api.Site) { s.Up = n })
		add(func(s *api.Site) { s.Down = n })
	}
	for _, n := range append(odd(), 0, api.MaxHold+1) {
		add(func(s *api.Site) { s.Rooms[0] = n })
		add(func(s *api.Site) { s.Rooms[1] = n })
	}
	add(func(s *api.Site) { s.Rooms = nil })
	add(func(s *api.Site) { s.Rooms = slices.Repeat(list(10), api.MaxPits+1) })
	return append(l, api.Site{})
}

func TestCheckSite(t *testing.T) {
	for _, s := range rightSites() {
		if e := works.CheckSite(s); e != api.OK {
			t.Error("P10.1:", s, e)
		}
		if e := works.CheckWrits(s, nil); e != api.OK {
			t.Error("P10.1:", s, e)
		}
	}
	for _, s := range wrongSites() {
		if e := works.CheckSite(s); e != api.ErrArg {
			t.Error("P10.1:", s, e)
		}
		// What is wrong of a site comes ahead of all that is wrong of writs.
		for _, l := range [][]api.Writ{nil, exampleWrits(), make([]api.Writ, 51), make([]api.Writ, 1), join(exampleWrits(), exampleWrits())} {
			if e := works.CheckWrits(s, l); e != api.ErrArg {
				t.Error("P10.1:", s, e)
			}
		}
	}
}

// rightWrits are writs of all kinds, many of them at the limits; they fit the example's site.
func rightWrits() []api.Writ {
	return join(exampleWrits(), writs(
		load(1, 0, 0, 0), load(api.MaxMark, api.MaxHour, api.MaxWeight, api.MaxWeight), load(3, 5, 0, api.MaxWeight),
		draw(1, 0, 0, 0), draw(api.MaxMark, api.MaxHour, api.MaxWeight, api.MaxWeight), draw(3, 5, 0, api.MaxWeight),
		weigh(1, api.WgLoads, 1, api.MaxMark, 0, api.MaxMark), weigh(2, api.WgLoads, api.MaxMark, 1, 0, 0), weigh(3, api.WgLoads, 3, 3, 5, 5),
		weigh(1, api.WgDraws, 1, api.MaxMark, 0, api.MaxMark), weigh(2, api.WgDraws, api.MaxMark, 1, api.MaxMark, api.MaxMark),
		weigh(1, api.WgHeld, 0, 0, 0, 0), weigh(2, api.WgHeld, api.MaxHour, 0, 1, api.MaxMark),
		look(1, 0, 0, 0, 0), look(api.MaxMark, api.MaxFeet, api.MaxHour, api.MaxHeat, api.MaxHeat), look(3, 1, 1, 0, api.MaxHeat),
		pour(1, 0, 0, 1, 1), pour(2, api.MaxDay, 1, api.MaxMark, api.MaxAmount), pour(3, 1, 1, 3, 5),
		take(1, 0, 0, 1), take(2, api.MaxDay, 1, api.MaxAmount), turn(1, 0, 0), turn(2, api.MaxDay, 1),
		move(1, 0, 0, 1, 1), move(2, api.MaxDay, 1, 0, api.MaxAmount), spill(1, 0, 0, 1), spill(2, api.MaxDay, 1, api.MaxAmount),
		back(1, 1), back(2, api.MaxMark),
	))
}

// edges are numbers at which something is just right, or just wrong.
func edges() []int {
	l := list(2, 3, 4, 5, 6, 7, 10, 11, 12, 49, 50, 51, 99, 100, 101, math.MaxInt, math.MinInt, 1<<32, -2)
	for _, n := range list(0, api.MaxMark, api.MaxDay, api.MaxHour, api.MaxFeet, api.MaxHeat, api.MaxAmount, api.MaxRoom, api.MaxID) {
		l = append(l, n-1, n, n+1)
	}
	return l
}

// numbersIn returns all numbers of a struct, and of its lists, so that they can be set.
func numbersIn(at any) []reflect.Value {
	var l []reflect.Value
	var look func(v reflect.Value)
	look = func(v reflect.Value) {
		switch v.Kind() {
		case reflect.Struct:
			for i := range v.NumField() {
				look(v.Field(i))
			}
		case reflect.Slice:
			for i := range v.Len() {
				look(v.Index(i))
			}
		default:
			l = append(l, v)
		}
	}
	look(reflect.ValueOf(at).Elem())
	return l
}

// checkForm checks whether a writ is taken to be formed.
func checkForm(t *testing.T, s api.Site, w api.Writ) {
	t.Helper()
	want := api.ErrForm
	if formedWrit(s, w) {
		want = api.OK
	}
	if e := works.CheckWrits(s, writs(w)); e != want {
		t.Errorf("P10.1: %+v: %v", w, e)
	}
	x, e := works.EntryOf(s, w)
	if e != want || e != api.OK && x != (api.Entry{}) {
		t.Errorf("P10.3: %+v: %v %v", w, x, e)
	}
}

// TestForm: each number of a writ of each kind is made each one of many others.
func TestForm(t *testing.T) {
	for _, w := range join(rightWrits(), writs(api.Writ{}, api.Writ{ID: 1}, api.Writ{ID: 1, Kind: 7}, stir(1, api.Stir{}))) {
		for _, s := range rightSites() {
			checkForm(t, s, w)
			for _, at := range numbersIn(&w) {
				kept := at.Int()
				for _, n := range edges() {
					at.SetInt(int64(n))
					checkForm(t, s, w)
				}
				at.SetInt(kept)
			}
		}
	}
	for _, w := range rightWrits() {
		if e := works.CheckWrits(site(), writs(w)); e != api.OK {
			t.Error("P10.1:", w, e)
		}
		w.Known = api.MaxDay
		if e := works.CheckWrits(site(), writs(w)); e != api.OK {
			t.Error("P10.1:", w, e)
		}
		w.Known = api.MaxDay + 1
		if e := works.CheckWrits(site(), writs(w)); e != api.ErrForm {
			t.Error("P10.1:", w, e)
		}
	}
}

// TestFormMuch: several numbers of a writ are made others at once.
func TestFormMuch(t *testing.T) {
	c := chanceOf(1)
	right, wrong := 0, 0
	few := list(0, 1, 2, 3, 5, 100, -1)
	for range 60000 {
		base := rightWrits()
		w := base[c.IntN(len(base))]
		for range c.IntN(4) {
			places := numbersIn(&w)
			places[c.IntN(len(places))].SetInt(int64(few[c.IntN(len(few))]))
		}
		checkForm(t, site(), w)
		if formedWrit(site(), w) {
			right++
		} else {
			wrong++
		}
	}
	if right < 10000 || wrong < 10000 {
		t.Error("P10.1: too few are right, or wrong:", right, wrong)
	}
}

// TestPits: pits are those of the site.
func TestPits(t *testing.T) {
	for _, x := range []struct {
		w    api.Writ
		pits int // how many pits are needed
	}{
		{pour(1, 0, 0, 5, 1), 1}, {pour(1, 0, 1, 5, 1), 2}, {take(1, 0, 5, 1), 6}, {turn(1, 0, 2), 3}, {spill(1, 0, 3, 1), 4},
		{move(1, 0, 0, 1, 1), 2}, {move(1, 0, 1, 0, 1), 2}, {move(1, 0, 0, 5, 1), 6}, {move(1, 0, 5, 0, 1), 6}, {move(1, 0, 2, 3, 1), 4},
		{take(1, 0, 6, 1), 7}, {move(1, 0, 6, 0, 1), 7}, {move(1, 0, 0, 6, 1), 7}, {load(1, 0, 0, 0), 1}, {back(1, 5), 1},
	} {
		for pits := 1; pits <= api.MaxPits; pits++ {
			s := site()
			s.Rooms = slices.Repeat(list(20), pits)
			want := api.OK
			if pits < x.pits {
				want = api.ErrForm
			}
			if e := works.CheckWrits(s, writs(x.w)); e != want {
				t.Error("P10.1:", x.w, pits, e)
			}
		}
	}
}

// fault is writs that are wrong, and their error.
type fault struct {
	name string
	l    []api.Writ
	want api.Errno
}

// loadsTo returns so many loads, with the IDs from 1 on.
func loadsTo(many int) []api.Writ {
	var l []api.Writ
	for i := range many {
		l = append(l, load(i+1, i, 1, 2))
	}
	return l
}

// faults are writs that are wrong.
func faults() []fault {
	wrong := load(7, 0, 3, 2)
	twice := writs(load(1, 0, 1, 2), draw(1, 0, 1, 2))
	return []fault{
		{"too many", loadsTo(51), api.ErrLimit},
		{"very many", make([]api.Writ, 100000), api.ErrLimit},
		{"too many, the first one wrong", join(writs(wrong), loadsTo(50)), api.ErrLimit},
		{"too many, two with the same ID", join(loadsTo(50), loadsTo(1)), api.ErrLimit},
		{"one that is not formed", writs(wrong), api.ErrForm},
		{"the last one not formed", join(exampleWrits(), writs(wrong)), api.ErrForm},
		{"the same ID", twice, api.ErrTwice},
		{"the same writ", writs(back(3, 1), back(3, 1)), api.ErrTwice},
		{"the same ID, of one that is withdrawn", writs(load(1, 0, 1, 2), back(2, 1), load(1, 0, 1, 2)), api.ErrTwice},
		{"the same ID, known on another day", join(on(5, load(1, 0, 1, 2)), writs(load(1, 0, 1, 2))), api.ErrTwice},
		{"the ID of a withdrawal", writs(back(2, 1), load(2, 0, 1, 2)), api.ErrTwice},
		{"not formed ahead of the same ID", join(writs(wrong), twice), api.ErrForm},
		{"the same ID ahead of not formed", join(twice, writs(wrong)), api.ErrTwice},
		{"not formed, and the same ID", writs(load(7, 0, 1, 2), wrong), api.ErrForm},
		{"the same ID far behind", join(loadsTo(49), writs(turn(1, 0, 0))), api.ErrTwice},
		{"a pit that the site has not", writs(take(1, 0, 2, 1)), api.ErrForm},
		{"a writ of zeros", make([]api.Writ, 1), api.ErrForm},
	}
}

func TestCheckWrits(t *testing.T) {
	for _, f := range faults() {
		if e := works.CheckWrits(site(), f.l); e != f.want {
			t.Error("P10.1:", f.name, e)
		}
	}
	for _, l := range [][]api.Writ{nil, exampleWrits(), loadsTo(50), writs(back(1, 1)), writs(back(1, 2), back(2, 1)),
		// An ID of something else than a writ does not matter, nor does what a writ names.
		writs(pour(1, 0, 0, 2, 5), load(2, 0, 1, 2)), writs(weigh(1, api.WgLoads, 9, 8, 1, 1)), writs(back(1, 99))} {
		if e := works.CheckWrits(site(), l); e != api.OK {
			t.Error("P10.1:", l, e)
		}
	}
}

// isNothing reports whether all results are zero, empty lists among them.
func isNothing(results ...any) bool {
	for _, x := range results {
		v := reflect.ValueOf(x)
		if v.Kind() == reflect.Slice && v.Len() > 0 || v.Kind() != reflect.Slice && !v.IsZero() {
			return false
		}
	}
	return true
}

// daily calls a function that is asked about a day, and tells whether its results are zero.
type daily struct {
	name string
	call func(s api.Site, l []api.Writ, known int) (bool, api.Errno)
}

func dailies() []daily {
	return []daily{
		{"Stand", func(s api.Site, l []api.Writ, known int) (bool, api.Errno) {
			x, e := works.Stand(s, l, known)
			return isNothing(x), e
		}},
		{"KilnOf", func(s api.Site, l []api.Writ, known int) (bool, api.Errno) {
			x, e := works.KilnOf(s, l, known)
			return isNothing(x), e
		}},
		{"FireOf", func(s api.Site, l []api.Writ, known int) (bool, api.Errno) {
			x, e := works.FireOf(s, l, known)
			return isNothing(x), e
		}},
		{"PitsOf", func(s api.Site, l []api.Writ, known int) (bool, api.Errno) {
			x, e := works.PitsOf(s, l, known)
			return isNothing(x), e
		}},
		{"Baked", func(s api.Site, l []api.Writ, known int) (bool, api.Errno) {
			x, e := works.Baked(s, l, 2, span(2, 4), 860, known)
			return isNothing(x), e
		}},
		{"Baked of nonsense", func(s api.Site, l []api.Writ, known int) (bool, api.Errno) {
			x, e := works.Baked(s, l, -1, span(4, 2), -1, known)
			return isNothing(x), e
		}},
		{"From", func(s api.Site, l []api.Writ, known int) (bool, api.Errno) {
			x, y, e := works.From(s, l, 42, known)
			return isNothing(x, y), e
		}},
		{"From of nonsense", func(s api.Site, l []api.Writ, known int) (bool, api.Errno) {
			x, y, e := works.From(s, l, -1, known)
			return isNothing(x, y), e
		}},
	}
}

// TestWritsFirst: all functions tell what is wrong of a site first, then of writs, then of a day.
func TestWritsFirst(t *testing.T) {
	for _, d := range dailies() {
		for _, known := range append(odd(), 0, 5, api.MaxDay, api.MaxDay+1) {
			for _, s := range wrongSites() {
				if isZero, e := d.call(s, make([]api.Writ, 51), known); !isZero || e != api.ErrArg {
					t.Error("P10.1:", d.name, s, e)
				}
			}
			for _, f := range faults() {
				if isZero, e := d.call(site(), f.l, known); !isZero || e != f.want {
					t.Error("P10.1:", d.name, f.name, known, e)
				}
			}
		}
		// A kiln with too many loads, looks that contradict each other, and a pit in which there is too little come behind the day.
		bad := join(loadsTo(21), writs(look(31, 0, 0, 0, 0), look(32, 0, 0, 9, 9), take(33, 0, 0, 1)))
		for _, known := range append(odd(), api.MaxDay+1) {
			if isZero, e := d.call(site(), bad, known); !isZero || e != api.ErrArg {
				t.Error("P10.1:", d.name, known, e)
			}
		}
	}
	for _, f := range faults() {
		if x, e := works.BookOf(site(), f.l); len(x) != 0 || e != f.want {
			t.Error("P10.3:", f.name, x, e)
		}
		if e := works.CheckReply(site(), f.l, weight(1, 0), api.Reply{Err: f.want}); e != f.want {
			t.Error("P10.10:", f.name, e)
		}
		if e := works.CheckReply(site(), f.l, api.Command{}, api.Reply{}); e != f.want {
			t.Error("P10.10:", f.name, e)
		}
		for _, q := range exampleQuestions() {
			if r := works.Answer(site(), f.l, q); !equalReplies(r, api.Reply{Err: f.want}) {
				t.Error("P10.9:", f.name, q, r)
			}
		}
		if r := works.Answer(site(), f.l, api.Command{}); !equalReplies(r, api.Reply{Err: api.ErrForm}) {
			t.Error("P10.9:", f.name, r)
		}
	}
	for _, s := range wrongSites() {
		if x, e := works.BookOf(s, make([]api.Writ, 51)); len(x) != 0 || e != api.ErrArg {
			t.Error("P10.3:", s, x, e)
		}
		if x, e := works.EntryOf(s, api.Writ{}); x != (api.Entry{}) || e != api.ErrArg {
			t.Error("P10.3:", s, x, e)
		}
		if e := works.CheckReply(s, nil, api.Command{}, api.Reply{}); e != api.ErrArg {
			t.Error("P10.10:", s, e)
		}
		if r := works.Answer(s, nil, weight(1, 0)); !equalReplies(r, api.Reply{Err: api.ErrArg}) {
			t.Error("P10.9:", s, r)
		}
	}
}

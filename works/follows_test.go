package works_test

import (
	"slices"
	"testing"

	"calx/api"
	"calx/works"
)

// checkBaked checks what Baked returns as known on the day 0.
func checkBaked(t *testing.T, s api.Site, l []api.Writ, load int, hours api.Span, need int, want api.Span) {
	t.Helper()
	if got, e := works.Baked(s, l, load, hours, need, 0); got != want || e != api.OK {
		t.Error("P10.4:", load, hours, need, got, e)
	}
}

// still is a site in which heat does not change at all but from foot to foot.
func still() api.Site {
	return api.Site{Room: 10000, PerFoot: 10, Up: 100, Down: 100, Rooms: list(100)}
}

func TestBaked(t *testing.T) {
	// The load 2 lies at the foot 2, and from the hour 5 on at the foot 0 or -1.
	l := writs(load(1, 0, 25, 25), load(2, 3, 20, 20), draw(11, 5, 20, 30), look(31, 0, 0, 1000, 1000), look(32, 1, 0, 950, 950), look(33, 2, 0, 900, 900))
	for _, x := range []struct {
		load     int
		hours    api.Span
		need     int
		at, most int
	}{
		{2, span(0, 2), 0, 0, 0},       // it is not charged yet
		{2, span(0, 3), 0, 1, 1},       // but it is in this hour
		{2, span(3, 3), 900, 1, 1},     // just hot enough
		{2, span(3, 3), 901, 0, 0},     // a degree more
		{2, span(3, 4), 900, 2, 2},     // all hours of a span count
		{2, span(4, 6), 901, 2, 2},     // the hours 5 and 6, at the foot 0
		{2, span(0, 20), 1000, 16, 16}, // what lies below 0 lies at 0
		{2, span(0, 20), 1001, 0, 0},
		{1, span(0, 20), 1000, 21, 21},
		{2, span(5, 5), 1000, 1, 1},
		{2, span(16000, 16099), 1000, 100, 100},
		{2, span(api.MaxHour, api.MaxHour), 1000, 1, 1},
	} {
		checkBaked(t, still(), l, x.load, x.hours, x.need, span(x.at, x.most))
	}
	// At two feet: surely only if both are hot enough, possibly if one can be.
	l[0] = load(1, 0, 10, 20)
	for _, x := range []struct{ need, at, most int }{{900, 1, 1}, {901, 0, 1}, {950, 0, 1}, {951, 0, 0}} {
		checkBaked(t, still(), l, 2, span(3, 3), x.need, span(x.at, x.most))
	}
	// Where no look is, heats are from what looks elsewhere leave possible.
	l[0] = load(1, 0, 35, 35)
	for _, x := range []struct{ need, at, most int }{{800, 1, 1}, {801, 0, 1}, {1000, 0, 1}, {1001, 0, 0}} {
		checkBaked(t, still(), l, 2, span(3, 3), x.need, span(x.at, x.most))
	}
	// Without looks, heats can be any.
	checkBaked(t, still(), l[:2], 2, span(3, 4), 0, span(2, 2))
	checkBaked(t, still(), l[:2], 2, span(3, 4), 1, span(0, 2))
	checkBaked(t, still(), l[:2], 2, span(3, 4), api.MaxHeat, span(0, 2))
	// What lies above all feet lies at the greatest one.
	l[0] = load(1, 0, 600, 650)
	l[3] = look(31, api.MaxFeet, 0, 777, 777)
	l = l[:4]
	checkBaked(t, still(), l, 2, span(3, 4), 777, span(2, 2))
	checkBaked(t, still(), l, 2, span(3, 4), 778, span(0, 0))
	l[0] = load(1, 0, 590, 5000)
	checkBaked(t, still(), l, 2, span(3, 4), 677, span(2, 2))
	checkBaked(t, still(), l, 2, span(3, 4), 678, span(0, 2))
}

// TestBakedErrors: the errors of Baked, one ahead of the others.
func TestBakedErrors(t *testing.T) {
	right := exampleWrits()
	noKiln := join(loadsTo(21))
	var noFire []api.Writ
	for i := range 25 {
		noFire = append(noFire, look(100+i, 0, 0, 5, 5))
	}
	noWeights := writs(load(1, 0, 5, 5), load(2, 9, 5, 5), weigh(3, api.WgLoads, 1, 1, 6, 6))
	noHeats := writs(load(1, 0, 5, 5), load(2, 9, 5, 5), look(4, 0, 0, 5, 5), look(5, 0, 0, 6, 6))
	for _, x := range []struct {
		name  string
		l     []api.Writ
		load  int
		hours api.Span
		need  int
		want  api.Errno
	}{
		{"right", right, 2, span(2, 4), 860, api.OK},
		{"the most hours", right, 2, span(0, 99), 860, api.OK},
		{"the last hours", right, 2, span(api.MaxHour-99, api.MaxHour), api.MaxHeat, api.OK},
		{"too many hours", right, 2, span(0, 100), 860, api.ErrArg},
		{"no span", right, 2, span(4, 3), 860, api.ErrArg},
		{"ahead of all hours", right, 2, span(-1, 3), 860, api.ErrArg},
		{"behind all hours", right, 2, span(api.MaxHour, api.MaxHour+1), 860, api.ErrArg},
		{"need is no heat", right, 2, span(2, 4), -1, api.ErrArg},
		{"need is too great", right, 2, span(2, 4), api.MaxHeat + 1, api.ErrArg},
		{"no kiln", noKiln, 1, span(2, 4), 860, api.ErrLimit},
		{"no kiln, and no hours", noKiln, 1, span(4, 2), 860, api.ErrArg},
		{"no fire", noFire, 1, span(2, 4), 860, api.ErrLimit},
		{"a wrong kiln, and no fire", join(noFire, writs(weigh(5, api.WgLoads, 1, 1, 1, 1))), 1, span(2, 4), 860, api.ErrArg},
		{"no such load", right, 3, span(2, 4), 860, api.ErrNone},
		{"a draw", right, 11, span(2, 4), 860, api.ErrNone},
		{"the load 0", right, 0, span(2, 4), 860, api.ErrNone},
		{"a load of no writ", right, -5, span(2, 4), 860, api.ErrNone},
		{"no weights", noWeights, 1, span(2, 4), 860, api.ErrClash},
		{"no weights, and not charged", noWeights, 2, span(2, 4), 860, api.ErrClash},
		{"no weights, and no such load", noWeights, 7, span(2, 4), 860, api.ErrNone},
		{"no heats", noHeats, 1, span(2, 4), 860, api.ErrClash},
		{"no heats, and not charged", noHeats, 2, span(2, 4), 860, api.ErrClash},
		{"no heats, and no such load", noHeats, 7, span(2, 4), 860, api.ErrNone},
	} {
		got, e := works.Baked(site(), x.l, x.load, x.hours, x.need, 0)
		if e != x.want || e != api.OK && got != (api.Span{}) {
			t.Error("P10.4:", x.name, got, e)
		}
	}
	for _, n := range odd() {
		for _, hours := range []api.Span{span(n, 5), span(5, n), span(n, n), span(-n, n), span(n, n+3)} {
			if got, e := works.Baked(site(), right, 2, hours, 860, 0); got != (api.Span{}) || e != api.ErrArg {
				t.Error("P10.4:", hours, got, e)
			}
		}
		if got, e := works.Baked(site(), right, 2, span(2, 4), n, 0); got != (api.Span{}) || e != api.ErrArg {
			t.Error("P10.4:", n, got, e)
		}
		if got, e := works.Baked(site(), right, n, span(2, 4), 860, 0); got != (api.Span{}) || e != api.ErrNone {
			t.Error("P10.4:", n, got, e)
		}
	}
}

func TestBakedMuch(t *testing.T) {
	told, wide := 0, 0
	for seed := range uint64(3000) {
		c := chanceOf(2000 + seed)
		w := c.wild()
		known, lo := c.IntN(10), c.IntN(lastHour)
		hours, id, need := span(lo, lo+c.IntN(25)), c.of(w, isLoad), c.from(100, 1300)
		got, e := works.Baked(w.site, w.writs, id, hours, need, known)
		want, f := bakedBy(w.site, w.writs, id, hours, need, known)
		if got != want || e != f {
			t.Error("P10.4:", seed, got, e, want, f)
		}
		if e == api.OK && got.Hi > 0 {
			told++
		}
		if e == api.OK && got.Lo > 0 && got.Lo < got.Hi {
			wide++
		}
	}
	if told < 300 || wide < 80 {
		t.Error("P10.4: too few cases:", told, wide)
	}
}

// burnt is loads, and two draws that are poured into one pit, and a third one in another pit; which loads the draws took of is not quite sure.
func burnt() []api.Writ {
	return writs(load(3, 0, 10, 10), load(1, 1, 10, 12), load(2, 2, 10, 10), load(4, 20, 10, 10), draw(12, 3, 8, 8), draw(11, 4, 10, 13), draw(13, 30, 3, 3),
		pour(41, 1, 0, 11, 4), pour(42, 1, 0, 12, 4), pour(43, 2, 1, 13, 4),
		take(51, 3, 0, 4), take(52, 3, 0, 2), take(53, 3, 1, 1))
}

func TestFrom(t *testing.T) {
	whole := join(burnt(), writs(turn(44, 2, 0)))
	moved := join(whole, writs(move(45, 2, 1, 0, 2), turn(46, 2, 0)))
	for _, x := range []struct {
		name        string
		l           []api.Writ
		barrow      int
		sure, maybe []int
	}{
		{"the draw 11 alone", burnt(), 51, list(1, 3), list(1, 2, 3)},
		{"the draw 12 alone", burnt(), 52, list(3), list(3)},
		{"the draw 13 alone", burnt(), 53, nil, list(1, 2)},
		{"both", whole, 51, list(1, 3), list(1, 2, 3)},
		{"all", moved, 52, list(1, 3), list(1, 2, 3)},
	} {
		sure, maybe, e := works.From(site(), x.l, x.barrow, 0)
		if !slices.Equal(sure, x.sure) || !slices.Equal(maybe, x.maybe) || e != api.OK {
			t.Error("P10.5:", x.name, sure, maybe, e)
		}
	}
}

func TestFromErrors(t *testing.T) {
	clash := join(burnt(), writs(weigh(60, api.WgLoads, 3, 3, 11, 11)))
	for _, x := range []struct {
		name   string
		l      []api.Writ
		barrow int
		want   api.Errno
	}{
		{"right", burnt(), 51, api.OK},
		{"no kiln", join(burnt(), writs(weigh(60, api.WgLoads, 3, 9, 11, 11))), 51, api.ErrArg},
		{"no pits", join(burnt(), writs(take(60, 3, 0, 99))), 51, api.ErrState},
		{"no kiln, and no pits", join(burnt(), writs(weigh(60, api.WgLoads, 3, 9, 11, 11), take(61, 3, 0, 99))), 51, api.ErrArg},
		{"a pour of no draw", join(burnt(), writs(pour(60, 3, 0, 14, 1))), 51, api.ErrNone},
		{"no pits, and no such barrow", join(burnt(), writs(take(60, 3, 0, 99))), 5, api.ErrState},
		{"no such barrow", burnt(), 54, api.ErrNone},
		{"the barrow 0", burnt(), 0, api.ErrNone},
		{"a pour is no barrow", burnt(), 41, api.ErrNone},
		{"what is poured is no barrow", burnt(), 11, api.ErrNone},
		{"no weights", clash, 51, api.ErrClash},
		{"no weights, and no loads", writs(draw(11, 4, 5, 5), pour(41, 1, 0, 11, 4), take(51, 1, 0, 4)), 51, api.ErrClash},
		{"no weights, and no such barrow", clash, 54, api.ErrNone},
		{"no weights, and no pits", join(clash, writs(take(61, 3, 0, 99))), 51, api.ErrState},
	} {
		sure, maybe, e := works.From(site(), x.l, x.barrow, 0)
		if e != x.want || e != api.OK && !isNothing(sure, maybe) {
			t.Error("P10.5:", x.name, sure, maybe, e)
		}
	}
	for _, n := range odd() {
		if sure, maybe, e := works.From(site(), burnt(), n, 0); !isNothing(sure, maybe) || e != api.ErrNone {
			t.Error("P10.5:", n, sure, maybe, e)
		}
	}
}

func TestFromMuch(t *testing.T) {
	told, wide := 0, 0
	for seed := range uint64(4000) {
		c := chanceOf(8000 + seed)
		w := c.wild()
		known, id := c.IntN(10), c.of(w, isTake)
		sure, maybe, e := works.From(w.site, w.writs, id, known)
		first, second, f := fromBy(w.site, w.writs, id, known)
		if !slices.Equal(sure, first) || !slices.Equal(maybe, second) || e != f {
			t.Error("P10.5:", seed, sure, maybe, e)
		}
		if e == api.OK {
			told++
		}
		if len(sure) > 0 && len(sure) < len(maybe) {
			wide++
		}
	}
	if told < 300 || wide < 80 {
		t.Error("P10.5: too few cases:", told, wide)
	}
}

package works_test

import (
	"math"
	"slices"
	"strings"
	"testing"

	"calx/api"
	"calx/works"
)

func list(l ...int) []int { return l }

func writs(l ...api.Writ) []api.Writ { return l }

func span(lo, hi int) api.Span { return api.Span{Lo: lo, Hi: hi} }

func load(id, hour, lo, hi int) api.Writ {
	return api.Writ{ID: id, Kind: api.WrLoad, Load: api.Load{Hour: hour, Weight: span(lo, hi)}}
}

func draw(id, hour, lo, hi int) api.Writ {
	return api.Writ{ID: id, Kind: api.WrDraw, Draw: api.Draw{Hour: hour, Weight: span(lo, hi)}}
}

func weigh(id, kind, from, to, lo, hi int) api.Writ {
	return api.Writ{ID: id, Kind: api.WrWeigh, Weigh: api.Weigh{Kind: kind, From: from, To: to, Sum: span(lo, hi)}}
}

func look(id, foot, hour, lo, hi int) api.Writ {
	return api.Writ{ID: id, Kind: api.WrLook, Look: api.Look{At: api.Spot{Foot: foot, Hour: hour}, Heat: span(lo, hi)}}
}

func stir(id int, x api.Stir) api.Writ { return api.Writ{ID: id, Kind: api.WrStir, Stir: x} }

func pour(id, day, pit, draw, amount int) api.Writ {
	return stir(id, api.Stir{Kind: api.StPour, ID: draw, Day: day, Pit: pit, Amount: amount})
}

func take(id, day, pit, amount int) api.Writ {
	return stir(id, api.Stir{Kind: api.StTake, Day: day, Pit: pit, Amount: amount})
}

func turn(id, day, pit int) api.Writ {
	return stir(id, api.Stir{Kind: api.StTurn, Day: day, Pit: pit})
}

func move(id, day, pit, to, amount int) api.Writ {
	return stir(id, api.Stir{Kind: api.StMove, Day: day, Pit: pit, To: to, Amount: amount})
}

func spill(id, day, pit, amount int) api.Writ {
	return stir(id, api.Stir{Kind: api.StSpill, Day: day, Pit: pit, Amount: amount})
}

func back(id, ref int) api.Writ { return api.Writ{ID: id, Kind: api.WrBack, Ref: ref} }

// on returns writs that came to be known on a day.
func on(known int, l ...api.Writ) []api.Writ {
	l = slices.Clone(l)
	for i := range l {
		l[i].Known = known
	}
	return l
}

func join(l ...[]api.Writ) []api.Writ { return slices.Concat(l...) }

func dayOf(a int) api.Command { return api.Command{Kind: api.CoDay, A: a} }

func write(w api.Writ) api.Command { return api.Command{Kind: api.CoWrit, Writ: w} }

func weight(a, known int) api.Command { return api.Command{Kind: api.CoWeight, A: a, Known: known} }

func where(a, b, known int) api.Command {
	return api.Command{Kind: api.CoWhere, A: a, B: b, Known: known}
}

func heat(a, b, known int) api.Command {
	return api.Command{Kind: api.CoHeat, A: a, B: b, Known: known}
}

func baked(a, b, c, d, known int) api.Command {
	return api.Command{Kind: api.CoBaked, A: a, B: b, C: c, D: d, Known: known}
}

func took(a, b, known int) api.Command {
	return api.Command{Kind: api.CoTook, A: a, B: b, Known: known}
}

func barrow(a, known int) api.Command { return api.Command{Kind: api.CoBarrow, A: a, Known: known} }

func from(a, known int) api.Command { return api.Command{Kind: api.CoFrom, A: a, Known: known} }

func stands(a int) api.Command { return api.Command{Kind: api.CoStands, A: a} }

func grown(a int) api.Command { return api.Command{Kind: api.CoGrown, A: a} }

func commands(l ...api.Command) []api.Command { return l }

// site is that of the chapter's examples.
func site() api.Site {
	return api.Site{Room: 100, PerFoot: 10, Rise: 20, Fall: 10, Up: 5, Down: 30, Rooms: []int{100, 50}}
}

// exampleWrits are the writs of the chapter's examples.
func exampleWrits() []api.Writ {
	first := writs(load(1, 0, 20, 30), load(2, 2, 10, 15), draw(11, 4, 15, 18), draw(12, 8, 20, 25), weigh(21, api.WgLoads, 1, 2, 36, 40),
		look(31, 1, 3, 900, 950), pour(41, 1, 0, 11, 16), take(42, 2, 0, 10))
	return join(first, on(3, back(51, 21)))
}

// exampleQuestions are questions of each kind about the example.
func exampleQuestions() []api.Command {
	return commands(weight(1, 0), weight(12, 3), where(2, 4, 0), heat(1, 4, 0), baked(2, 2, 4, 860, 0), took(12, 2, 3), barrow(42, 0), from(42, 0), stands(2), grown(3))
}

const exampleText = `load 1 0 20 30
load 2 2 10 15
draw 11 4 15 18
draw 12 8 20 25
weigh 21 1 1 2 36 40
weight 1 0
where 2 4 0
where 2 1 0
look 31 1 3 900 950
heat 1 4 0
baked 2 2 4 860 0
pour 41 1 0 11 16
take 42 2 0 10
barrow 42 0
from 42 0
day 3
back 51 21
weight 1 3
weight 1 2
took 12 2 3
weight 9 3
grown 3
`

// exampleScript is the chapter's examples.
func exampleScript(t *testing.T) api.Script {
	t.Helper()
	l, e, at := works.Parse(exampleText)
	if e != api.OK || at != -1 {
		t.Fatal("P10.6:", e, at)
	}
	return api.Script{Site: site(), Commands: l}
}

// script returns a script of the lines that are told.
func script(t *testing.T, s api.Site, lines ...string) api.Script {
	t.Helper()
	l, e, at := works.Parse(strings.Join(lines, "\n") + "\n")
	if e != api.OK {
		t.Fatal("P10.6:", lines, e, at)
	}
	return api.Script{Site: s, Commands: l}
}

// odd are numbers that are out of all bounds.
func odd() []int { return list(-1, math.MaxInt, math.MinInt, 1<<32, -1<<32, 1<<50) }

func equalKilns(a, b api.Kiln) bool {
	return a.Room == b.Room && a.PerFoot == b.PerFoot && slices.Equal(a.Loads, b.Loads) && slices.Equal(a.Draws, b.Draws) && slices.Equal(a.Weighs, b.Weighs)
}

func equalFires(a, b api.Fire) bool {
	return a.Rise == b.Rise && a.Fall == b.Fall && a.Up == b.Up && a.Down == b.Down && slices.Equal(a.Looks, b.Looks)
}

func equalPits(a, b api.Pits) bool {
	return slices.Equal(a.Rooms, b.Rooms) && slices.Equal(a.Stirs, b.Stirs)
}

func equalChains(a, b api.Chain) bool {
	return a.Most == b.Most && slices.Equal(a.Path, b.Path) && slices.Equal(a.Truth.Loads, b.Truth.Loads) && slices.Equal(a.Truth.Draws, b.Truth.Draws)
}

func equalReplies(a, b api.Reply) bool {
	return a.Err == b.Err && a.Span == b.Span && equalChains(a.High, b.High) && equalChains(a.Low, b.Low) && a.Bounds == b.Bounds &&
		slices.Equal(a.Sure, b.Sure) && slices.Equal(a.Maybe, b.Maybe) && slices.Equal(a.Parts, b.Parts) &&
		a.Root == b.Root && a.Many == b.Many && slices.Equal(a.Twigs, b.Twigs)
}

func cloneChain(c api.Chain) api.Chain {
	return api.Chain{Most: c.Most, Path: slices.Clone(c.Path), Truth: api.Truth{Loads: slices.Clone(c.Truth.Loads), Draws: slices.Clone(c.Truth.Draws)}}
}

func cloneReply(r api.Reply) api.Reply {
	r.High, r.Low = cloneChain(r.High), cloneChain(r.Low)
	r.Sure, r.Maybe = slices.Clone(r.Sure), slices.Clone(r.Maybe)
	r.Parts, r.Twigs = slices.Clone(r.Parts), slices.Clone(r.Twigs)
	return r
}

// run returns the replies to all commands of a script that is right.
func run(t *testing.T, s api.Script) []api.Reply {
	t.Helper()
	l, e := works.Run(s)
	if e != api.OK || len(l) != len(s.Commands) {
		t.Fatal("P10.8:", len(l), e)
	}
	return l
}

// lines returns the transcript of a script that is right.
func lines(t *testing.T, s api.Script) []string {
	t.Helper()
	l, e := works.Transcript(s, run(t, s))
	if e != api.OK || len(l) != len(s.Commands) {
		t.Fatal("P10.8:", len(l), e)
	}
	return l
}

// expect checks what a script is replied, line by line.
func expect(t *testing.T, s api.Script, want ...string) {
	t.Helper()
	for i, line := range lines(t, s) {
		if i >= len(want) || line != want[i] {
			text, _ := works.Print(s.Commands[i : i+1])
			t.Errorf("P10.9: %d %q: %q", i, text, line)
		}
	}
}

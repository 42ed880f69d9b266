package works_test

import (
	"math"
	"slices"
	"strconv"
	"strings"
	"testing"

	"calx/api"
	"calx/works"
)

// office returns a new office of the example's site.
func office(t *testing.T) *works.Office {
	t.Helper()
	o, e := works.New(site())
	if o == nil || e != api.OK {
		t.Fatal("P10.7:", o, e)
	}
	return o
}

// does checks that a command is replied with an error, or OK, and with nothing else; and what the office then has.
func does(t *testing.T, o *works.Office, c api.Command, want api.Errno, day int, l ...api.Writ) {
	t.Helper()
	if r := o.Do(c); !equalReplies(r, api.Reply{Err: want}) {
		t.Errorf("P10.7: %+v: %v", c, r)
	}
	if o.Day() != day || !slices.Equal(o.Writs(), l) {
		t.Errorf("P10.7: %+v: %v %v", c, o.Day(), o.Writs())
	}
}

func TestNew(t *testing.T) {
	for _, s := range rightSites() {
		o, e := works.New(s)
		if e != api.OK || o.Day() != 0 || len(o.Writs()) != 0 {
			t.Error("P10.7:", s, e)
		}
	}
	for _, s := range wrongSites() {
		if o, e := works.New(s); o != nil || e != api.ErrArg {
			t.Error("P10.7:", s, o, e)
		}
	}
}

func TestDays(t *testing.T) {
	o := office(t)
	does(t, o, dayOf(0), api.OK, 0)
	does(t, o, dayOf(3), api.OK, 3)
	does(t, o, dayOf(2), api.ErrArg, 3)
	does(t, o, dayOf(0), api.ErrArg, 3)
	does(t, o, dayOf(3), api.OK, 3)
	does(t, o, dayOf(-1), api.ErrForm, 3)
	does(t, o, dayOf(api.MaxDay+1), api.ErrForm, 3)
	does(t, o, dayOf(api.MaxDay), api.OK, api.MaxDay)
	does(t, o, dayOf(api.MaxDay-1), api.ErrArg, api.MaxDay)
	does(t, o, dayOf(api.MaxDay), api.OK, api.MaxDay)
}

func TestWriting(t *testing.T) {
	o := office(t)
	a, b := load(5, 0, 1, 2), take(6, 3, 1, 9)
	does(t, o, write(a), api.OK, 0, a)
	does(t, o, dayOf(4), api.OK, 4, a)
	l := join(writs(a), on(4, b))
	does(t, o, write(b), api.OK, 4, l...)
	does(t, o, write(b), api.ErrTwice, 4, l...)
	does(t, o, write(draw(5, 9, 1, 1)), api.ErrTwice, 4, l...)
	does(t, o, write(take(7, 3, 2, 9)), api.ErrForm, 4, l...)
	does(t, o, write(move(7, 3, 1, 5, 9)), api.ErrForm, 4, l...)
	does(t, o, write(move(5, 3, 5, 1, 9)), api.ErrForm, 4, l...)
	does(t, o, write(on(4, turn(7, 3, 1))[0]), api.ErrForm, 4, l...)
	does(t, o, write(load(0, 0, 1, 2)), api.ErrForm, 4, l...)
	does(t, o, write(back(7, 5)), api.OK, 4, join(l, on(4, back(7, 5)))...)
	does(t, o, write(a), api.ErrTwice, 4, join(l, on(4, back(7, 5)))...)
	does(t, o, api.Command{}, api.ErrForm, 4, join(l, on(4, back(7, 5)))...)
	does(t, o, weight(5, 4), api.ErrNone, 4, join(l, on(4, back(7, 5)))...)
	// What does not fit together is written all the same.
	o = office(t)
	does(t, o, write(weigh(1, api.WgLoads, 8, 9, 5, 5)), api.OK, 0, weigh(1, api.WgLoads, 8, 9, 5, 5))
	does(t, o, weight(8, 0), api.ErrArg, 0, weigh(1, api.WgLoads, 8, 9, 5, 5))
}

// TestFull: there are at most so many writs.
func TestFull(t *testing.T) {
	o := office(t)
	l := loadsTo(50)
	for i, w := range l {
		does(t, o, write(w), api.OK, 0, l[:i+1]...)
	}
	does(t, o, write(load(51, 0, 1, 1)), api.ErrLimit, 0, l...)
	does(t, o, write(load(1, 0, 1, 1)), api.ErrLimit, 0, l...)
	does(t, o, write(turn(51, 0, 5)), api.ErrLimit, 0, l...)
	does(t, o, write(load(51, 0, 2, 1)), api.ErrForm, 0, l...)
	does(t, o, dayOf(7), api.OK, 7, l...)
	does(t, o, write(back(51, 1)), api.ErrLimit, 7, l...)
	if r := o.Do(stands(49)); r.Err != api.OK || r.Many != 50 {
		t.Error("P10.7:", r)
	}
	if r := o.Do(grown(50)); r.Err != api.OK || r.Many != 50 {
		t.Error("P10.7:", r)
	}
}

// TestAsked: questions change nothing, and are answered for the writs so far.
func TestAsked(t *testing.T) {
	o := office(t)
	for _, w := range exampleWrits() {
		if r := o.Do(dayOf(w.Known)); r.Err != api.OK {
			t.Error("P10.7:", w, r)
		}
		w.Known = 0
		if r := o.Do(write(w)); r.Err != api.OK {
			t.Error("P10.7:", w, r)
		}
		for _, q := range exampleQuestions() {
			l, day := o.Writs(), o.Day()
			if r := o.Do(q); !equalReplies(r, works.Answer(site(), l, q)) || !equalReplies(r, answerBy(site(), l, q)) {
				t.Error("P10.7:", q, r)
			}
			if !slices.Equal(o.Writs(), l) || o.Day() != day {
				t.Error("P10.7:", q, o.Writs(), o.Day())
			}
		}
	}
	if !slices.Equal(o.Writs(), exampleWrits()) {
		t.Error("P10.7:", o.Writs())
	}
}

// TestApart: two offices know nothing of each other.
func TestApart(t *testing.T) {
	one, other := office(t), office(t)
	does(t, one, write(turn(1, 0, 0)), api.OK, 0, turn(1, 0, 0))
	does(t, one, dayOf(2), api.OK, 2, turn(1, 0, 0))
	does(t, other, write(turn(1, 0, 1)), api.OK, 0, turn(1, 0, 1))
	does(t, one, dayOf(2), api.OK, 2, turn(1, 0, 0))
}

// TestRun: the errors of Run, Transcript and Accept.
func TestRun(t *testing.T) {
	right, wrong := dayOf(1), api.Command{}
	for _, x := range []struct {
		l    []api.Command
		want api.Errno
		at   int
	}{
		{nil, api.OK, -1}, {commands(right), api.OK, -1}, {slices.Repeat(commands(right), 81), api.ErrLimit, -1}, {commands(right, wrong), api.ErrForm, 1}, {slices.Repeat(commands(wrong), 81), api.ErrLimit, -1},
	} {
		for _, s := range append(wrongSites(), site()) {
			want, at := x.want, x.at
			if works.CheckSite(s) != api.OK {
				want, at = api.ErrArg, -1
			}
			script := api.Script{Site: s, Commands: x.l}
			l, e := works.Run(script)
			if e != want || e != api.OK && len(l) > 0 || e == api.OK && len(l) != len(x.l) {
				t.Error("P10.8:", s, len(x.l), l, e)
			}
			for _, many := range list(0, len(x.l), len(x.l)+1, 2) {
				wanted, index := want, at
				if want == api.OK && many != len(x.l) {
					wanted, index = api.ErrArg, -1
				}
				if text, e := works.Transcript(script, make([]api.Reply, many)); e != wanted || e != api.OK && len(text) > 0 || e == api.OK && len(text) != many {
					t.Error("P10.8:", s, len(x.l), many, text, e)
				}
				if e, i := works.Accept(script, make([]api.Reply, many)); e != wanted || i != index {
					t.Error("P10.10:", s, len(x.l), many, e, i)
				}
			}
		}
	}
}

// full is a reply in which all is told, right or not.
func full() api.Reply {
	return api.Reply{
		Span: span(-3, 4), High: api.Chain{Most: 5, Path: list(6)}, Low: api.Chain{Most: -7, Path: list(8)}, Bounds: api.Bounds{Span: span(-9, 10), Low: 11, High: 12},
		Sure: list(13, -14), Maybe: list(15), Parts: []api.Part{{Pour: 16, Amount: api.Ratio{Num: -17, Den: 18}}, {Pour: -19, Amount: api.Ratio{Num: 20}}},
		Root: -21, Many: 22, Twigs: []api.Twig{{From: 23}},
	}
}

// TestTranscript: replies are looked at as they are.
func TestTranscript(t *testing.T) {
	great := api.Reply{Span: span(math.MinInt, math.MaxInt), Bounds: api.Bounds{Span: span(math.MaxInt, math.MinInt)}, Sure: list(math.MinInt), Root: math.MaxInt, Many: math.MinInt}
	low, high := strconv.Itoa(math.MinInt), strconv.Itoa(math.MaxInt)
	for _, x := range []struct {
		c                  api.Command
		full, empty, great string
	}{
		{dayOf(1), "ok", "ok", "ok"},
		{write(turn(1, 0, 0)), "ok", "ok", "ok"},
		{weight(1, 0), "from -3 to 4", "from 0 to 0", "from " + low + " to " + high},
		{where(1, 0, 0), "from -3 to 4", "from 0 to 0", "from " + low + " to " + high},
		{heat(1, 0, 0), "from -9 to 10", "from 0 to 0", "from " + high + " to " + low},
		{baked(1, 0, 0, 0, 0), "from -3 to 4", "from 0 to 0", "from " + low + " to " + high},
		{took(1, 1, 0), "from -3 to 4", "from 0 to 0", "from " + low + " to " + high},
		{barrow(1, 0), "has 16 -17 18 -19 20 0", "has", "has"},
		{from(1, 0), "surely 13 -14 perhaps 15", "surely perhaps", "surely " + low + " perhaps"},
		{stands(1), "root -21 of 22", "root 0 of 0", "root " + high + " of " + low},
		{grown(1), "root -21 of 22", "root 0 of 0", "root " + high + " of " + low},
	} {
		for _, e := range []api.Errno{api.OK, api.ErrArg, api.ErrClash, -5, 1000000, math.MinInt} {
			for r, want := range map[string]api.Reply{x.full: full(), x.empty: {}, x.great: great} {
				want.Err = e
				if e != api.OK {
					r = "error " + strconv.Itoa(int(e))
				}
				s := api.Script{Site: site(), Commands: commands(dayOf(0), x.c)}
				if l, f := works.Transcript(s, []api.Reply{{}, want}); !slices.Equal(l, []string{"ok", r}) || f != api.OK {
					t.Errorf("P10.8: %+v: %q %v", x.c, l, f)
				}
			}
		}
	}
	s := api.Script{Site: site(), Commands: commands(from(1, 0), barrow(1, 0))}
	if l, e := works.Transcript(s, []api.Reply{{Maybe: list(1, 2, 3)}, {Err: 5}}); strings.Join(l, "|") != "surely perhaps 1 2 3|error 5" || e != api.OK {
		t.Error("P10.8:", l, e)
	}
}

// lineFor returns the line for a reply.
func lineFor(c api.Command, r api.Reply) string {
	words := []any{"ok"}
	switch c.Kind {
	case api.CoWeight, api.CoWhere, api.CoBaked, api.CoTook:
		words = []any{"from", r.Span.Lo, "to", r.Span.Hi}
	case api.CoHeat:
		words = []any{"from", r.Bounds.Span.Lo, "to", r.Bounds.Span.Hi}
	case api.CoBarrow:
		words = []any{"has"}
		for _, x := range r.Parts {
			words = append(words, x.Pour, x.Amount.Num, x.Amount.Den)
		}
	case api.CoFrom:
		words = []any{"surely"}
		for _, n := range r.Sure {
			words = append(words, n)
		}
		words = append(words, "perhaps")
		for _, n := range r.Maybe {
			words = append(words, n)
		}
	case api.CoStands, api.CoGrown:
		words = []any{"root", r.Root, "of", r.Many}
	}
	if r.Err != api.OK {
		words = []any{"error", int(r.Err)}
	}
	return sentence(words...)
}

// TestRunMuch compares whole scripts with the chapter's own words, and with an office to which they are told.
func TestRunMuch(t *testing.T) {
	found := map[api.Errno]int{}
	for seed := range uint64(80) {
		c := chanceOf(20000 + seed)
		s := c.script(c.wild())
		replies := run(t, s)
		text := lines(t, s)
		want, books, days := writtenBy(s)
		o, _ := works.New(s.Site)
		for i, x := range s.Commands {
			r := o.Do(x)
			if !equalReplies(r, want[i]) || !equalReplies(replies[i], want[i]) || !slices.Equal(o.Writs(), books[i]) || o.Day() != days[i] {
				t.Errorf("P10.8: %d %+v: %v, not %v", seed, x, r, want[i])
			}
			if text[i] != lineFor(x, r) {
				t.Errorf("P10.8: %d %+v: %q", seed, x, text[i])
			}
			found[r.Err]++
		}
	}
	for _, e := range []api.Errno{api.OK, api.ErrArg, api.ErrForm, api.ErrNone, api.ErrTwice, api.ErrClash} {
		if found[e] < 50 {
			t.Error("P10.8: too few cases:", e, found[e])
		}
	}
}

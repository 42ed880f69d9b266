package works_test

import (
	"slices"
	"testing"

	"calx/api"
	"calx/works"
)

// spoil makes all of a list another thing, also behind its end.
func spoil[T any](l []T, x T) {
	l = l[:cap(l)]
	for i := range l {
		l[i] = x
	}
}

// spoilReply likewise makes all lists of a reply other ones.
func spoilReply(r api.Reply) {
	for _, l := range [][]int{r.High.Path, r.High.Truth.Loads, r.High.Truth.Draws, r.Low.Path, r.Low.Truth.Loads, r.Low.Truth.Draws, r.Sure, r.Maybe} {
		spoil(l, -7)
	}
	spoil(r.Parts, api.Part{Pour: -7})
	spoil(r.Twigs, api.Twig{From: -7})
}

// wide returns a list with more behind its end.
func wide[T any](l []T, more T) []T { return append(slices.Clone(l), more, more)[: len(l) : len(l)+2] }

// isKept reports whether a wide list is as it was, also behind its end.
func isKept[T comparable](l, want []T, more T) bool {
	return slices.Equal(l[:len(l)+2], append(slices.Clone(want), more, more))
}

// use calls the functions that return lists, and spoils what they return.
func use(t *testing.T, s api.Site, l []api.Writ) {
	t.Helper()
	stand, e1 := works.Stand(s, l, 0)
	k, e2 := works.KilnOf(s, l, 0)
	f, e3 := works.FireOf(s, l, 0)
	p, e4 := works.PitsOf(s, l, 0)
	entries, e5 := works.BookOf(s, l)
	sure, maybe, e6 := works.From(s, l, 42, 0)
	if max(e1, e2, e3, e4, e5, e6) != api.OK || !slices.Equal(stand, standBy(l, 0)) || !slices.Equal(entries, bookBy(l)) || !slices.Equal(sure, list(1)) || !slices.Equal(maybe, list(1)) {
		t.Error("R6:", stand, entries, sure, maybe)
	}
	kiln, _ := kilnBy(s, l, 0)
	heats, _ := fireBy(s, l, 0)
	pits, _ := pitsBy(s, l, 0)
	if !equalKilns(k, kiln) || !equalFires(f, heats) || !equalPits(p, pits) {
		t.Error("R6:", k, f, p)
	}
	spoil(stand, api.Writ{})
	spoil(entries, api.Entry{})
	spoil(sure, -7)
	if !slices.Equal(maybe, list(1)) {
		t.Error("R6: lists share memory:", maybe)
	}
	spoil(maybe, -7)
	spoil(k.Loads, api.Load{})
	spoil(k.Draws, api.Draw{})
	spoil(k.Weighs, api.Weigh{})
	spoil(f.Looks, api.Look{})
	spoil(p.Rooms, -7)
	spoil(p.Stirs, api.Stir{})
}

// TestMemory: arguments stay as they are, also behind their ends; results share no memory.
func TestMemory(t *testing.T) {
	s := site()
	s.Rooms = wide(s.Rooms, -7)
	l := wide(exampleWrits(), api.Writ{ID: -7})
	for range 2 {
		use(t, s, l)
		for _, q := range exampleQuestions() {
			want := answerBy(site(), exampleWrits(), q)
			r := works.Answer(s, l, q)
			if !equalReplies(r, want) {
				t.Error("R6:", q, r)
			}
			kept := cloneReply(r)
			if e := works.CheckReply(s, l, q, kept); e != api.OK || !equalReplies(kept, want) {
				t.Error("R6:", q, kept, e)
			}
			spoil(r.High.Path, -7)
			spoil(r.High.Truth.Loads, -7)
			if !equalChains(r.Low, want.Low) || !slices.Equal(r.High.Truth.Draws, want.High.Truth.Draws) {
				t.Error("R6: chains share memory:", q, r)
			}
			spoilReply(r)
		}
	}
	if !isKept(s.Rooms, site().Rooms, -7) || !isKept(l, exampleWrits(), api.Writ{ID: -7}) {
		t.Error("R6: an argument is changed:", s, l)
	}
}

// TestWideReplies: lists of replies are not touched, also behind their ends.
func TestWideReplies(t *testing.T) {
	for _, q := range exampleQuestions() {
		r := works.Answer(site(), exampleWrits(), q)
		kept := cloneReply(r)
		lists := []*[]int{&r.High.Path, &r.High.Truth.Loads, &r.High.Truth.Draws, &r.Low.Path, &r.Low.Truth.Loads, &r.Low.Truth.Draws, &r.Sure, &r.Maybe}
		for _, l := range lists {
			*l = wide(*l, -7)
		}
		r.Parts, r.Twigs = wide(r.Parts, api.Part{Pour: -7}), wide(r.Twigs, api.Twig{From: -7})
		s := api.Script{Site: site(), Commands: commands(q)}
		e := works.CheckReply(site(), exampleWrits(), q, r)
		_, f := works.Transcript(s, []api.Reply{r})
		_, _ = works.Accept(s, []api.Reply{r})
		if e != api.OK || f != api.OK || !equalReplies(r, kept) {
			t.Error("R6:", q, r, e, f)
		}
		for i, l := range lists {
			if !isKept(*l, (*l)[:len(*l)], -7) {
				t.Error("R6:", q, i, *l)
			}
		}
		if !isKept(r.Parts, kept.Parts, api.Part{Pour: -7}) || !isKept(r.Twigs, kept.Twigs, api.Twig{From: -7}) {
			t.Error("R6:", q, r)
		}
	}
}

// TestOfficeMemory: an office keeps nothing that somebody else can change.
func TestOfficeMemory(t *testing.T) {
	s := site()
	s.Rooms = wide(s.Rooms, -7)
	o, _ := works.New(s)
	spoil(s.Rooms, 1)
	for _, w := range exampleWrits() {
		o.Do(dayOf(w.Known))
		w.Known = 0
		if r := o.Do(write(w)); r.Err != api.OK {
			t.Error("R6:", w, r)
		}
		spoil(o.Writs(), api.Writ{})
	}
	for range 2 {
		for _, q := range exampleQuestions() {
			r := o.Do(q)
			if !equalReplies(r, answerBy(site(), exampleWrits(), q)) {
				t.Error("R6:", q, r)
			}
			spoilReply(r)
		}
	}
	if l := o.Writs(); !slices.Equal(l, exampleWrits()) {
		t.Error("R6:", l)
	}
	// Lists of writs that were returned before stay as they are.
	before := o.Writs()
	o.Do(write(turn(70, 1, 0)))
	if l := append(before, api.Writ{}); len(o.Writs()) != 10 || !slices.Equal(l[:9], exampleWrits()) || o.Writs()[9].ID != 70 {
		t.Error("R6:", l, o.Writs())
	}
}

// TestScriptMemory: scripts and their replies stay as they are.
func TestScriptMemory(t *testing.T) {
	s := exampleScript(t)
	all := s.Commands
	s.Commands = wide(all, api.Command{Kind: -7})
	for range 2 {
		l := run(t, s)
		kept := slices.Clone(l)
		if e, at := works.Accept(s, l); e != api.OK || at != -1 {
			t.Error("R6:", e, at)
		}
		text, e := works.Transcript(s, l)
		if e != api.OK || !slices.EqualFunc(l, kept, equalReplies) {
			t.Error("R6:", e, l)
		}
		spoil(text, "")
		for _, r := range l {
			spoilReply(r)
		}
		if _, e := works.Print(s.Commands); e != api.OK {
			t.Error("R6:", e)
		}
	}
	if !isKept(s.Commands, all, api.Command{Kind: -7}) {
		t.Error("R6: an argument is changed:", s.Commands)
	}
	l, _, _ := works.Parse(exampleText)
	spoil(l, api.Command{})
	if l, _, _ := works.Parse(exampleText); !slices.Equal(l, all) {
		t.Error("R6:", l)
	}
}

// TestAlike: the same is told each time (R7).
func TestAlike(t *testing.T) {
	for seed := range uint64(40) {
		c := chanceOf(58000 + seed)
		s := c.script(c.wild())
		l := run(t, s)
		for range 3 {
			if again := run(t, s); !slices.EqualFunc(again, l, equalReplies) {
				t.Error("R7:", seed)
			}
		}
	}
}

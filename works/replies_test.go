package works_test

import (
	"math"
	"reflect"
	"slices"
	"testing"

	"calx/api"
	"calx/works"
)

// forged returns replies that differ from one in a number, or in a list.
func forged(r api.Reply) []api.Reply {
	var l []api.Reply
	for i := range numbersIn(&r) {
		for _, more := range list(1, -1, 7, math.MinInt) {
			x := cloneReply(r)
			at := numbersIn(&x)[i]
			at.SetInt(at.Int() + int64(more))
			l = append(l, x)
		}
	}
	for i := range listsIn(&r) {
		for _, change := range []func(v reflect.Value){shorten, lengthen, reverse, empty} {
			x := cloneReply(r)
			change(listsIn(&x)[i])
			l = append(l, x)
		}
	}
	return append(l, api.Reply{}, api.Reply{Err: api.ErrNone}, api.Reply{Err: r.Err}, full())
}

// listsIn returns all lists of a reply, so that they can be set.
func listsIn(r *api.Reply) []reflect.Value {
	var l []reflect.Value
	for _, at := range []any{&r.High.Path, &r.High.Truth.Loads, &r.High.Truth.Draws, &r.Low.Path, &r.Low.Truth.Loads, &r.Low.Truth.Draws, &r.Sure, &r.Maybe, &r.Parts, &r.Twigs} {
		l = append(l, reflect.ValueOf(at).Elem())
	}
	return l
}

func shorten(v reflect.Value) {
	if v.Len() > 0 {
		v.Set(v.Slice(0, v.Len()-1))
	}
}

func lengthen(v reflect.Value) { v.Set(reflect.Append(v, reflect.Zero(v.Type().Elem()))) }

func reverse(v reflect.Value) {
	swap := reflect.Swapper(v.Interface())
	for i := range v.Len() / 2 {
		swap(i, v.Len()-1-i)
	}
}

func empty(v reflect.Value) { v.Set(reflect.MakeSlice(v.Type(), 0, 3)) }

// checkRight checks whether a reply is taken to be right.
func checkRight(t *testing.T, s api.Site, l []api.Writ, q api.Command, r api.Reply) bool {
	t.Helper()
	isRight, want := rightBy(s, l, q, r), api.ErrProof
	if isRight {
		want = api.OK
	}
	if e := works.CheckReply(s, l, q, r); e != want {
		t.Errorf("P10.10: %+v: %+v: %v", q, r, e)
	}
	return isRight
}

// TestForged: replies in which anything is another one.
func TestForged(t *testing.T) {
	for _, q := range exampleQuestions() {
		r := works.Answer(site(), exampleWrits(), q)
		if e := works.CheckReply(site(), exampleWrits(), q, r); e != api.OK {
			t.Error("P10.10:", q, e)
		}
		for _, x := range forged(r) {
			checkRight(t, site(), exampleWrits(), q, x)
		}
		// A pound, or a degree, less.
		for _, at := range []*int{&r.Span.Lo, &r.Span.Hi, &r.Bounds.Span.Lo, &r.Bounds.Span.Hi, &r.Root, &r.Many, &r.High.Most, &r.Low.Most} {
			*at--
			if e := works.CheckReply(site(), exampleWrits(), q, r); e != api.ErrProof {
				t.Error("P10.10:", q, r, e)
			}
			*at++
		}
		for _, e := range []api.Errno{api.ErrArg, api.ErrProof, -1} {
			r.Err = e
			if e := works.CheckReply(site(), exampleWrits(), q, r); e != api.ErrProof {
				t.Error("P10.10:", q, r, e)
			}
			if e := works.CheckReply(site(), exampleWrits(), q, api.Reply{Err: e}); e != api.ErrProof {
				t.Error("P10.10:", q, r, e)
			}
		}
	}
}

// TestForgedErrors: a reply with an error tells nothing else.
func TestForgedErrors(t *testing.T) {
	for _, q := range commands(weight(9, 0), where(9, 4, 0), where(2, 1, 0), baked(9, 2, 4, 860, 0), took(9, 9, 0), barrow(9, 0), from(9, 0), stands(9), grown(10)) {
		r := works.Answer(site(), exampleWrits(), q)
		if r.Err == api.OK {
			t.Error("P10.9:", q, r)
		}
		for _, x := range forged(r) {
			checkRight(t, site(), exampleWrits(), q, x)
		}
		for _, other := range exampleQuestions() {
			x := works.Answer(site(), exampleWrits(), other)
			x.Err = r.Err
			if e := works.CheckReply(site(), exampleWrits(), q, x); e != api.ErrProof {
				t.Error("P10.10:", q, x, e)
			}
		}
	}
}

// TestOthers: the reply to one question is not that to another one.
func TestOthers(t *testing.T) {
	questions := append(exampleQuestions(), weight(2, 0), weight(1, 3), where(1, 4, 0), where(2, 8, 0), heat(2, 4, 0), stands(3), grown(2), weight(9, 0))
	for _, q := range questions {
		for _, other := range questions {
			checkRight(t, site(), exampleWrits(), q, works.Answer(site(), exampleWrits(), other))
		}
	}
}

// TestOtherChains: another path with the same sum, and other weights, prove the same.
func TestOtherChains(t *testing.T) {
	l := writs(load(1, 0, 30, 30), load(2, 1, 10, 20), weigh(21, api.WgLoads, 1, 1, 30, 30))
	q := weight(1, 0)
	r := works.Answer(site(), l, q)
	if r.Err != api.OK || r.Span != span(30, 30) {
		t.Fatal("P10.9:", r)
	}
	long := slices.Concat(slices.Repeat(list(0, 1), 99), list(0))
	for _, x := range []struct {
		name   string
		change func(r *api.Reply)
		want   api.Errno
	}{
		{"the load's own tie", func(r *api.Reply) { r.High.Path = list(0) }, api.OK},
		{"that of the weighing", func(r *api.Reply) { r.High.Path = list(4) }, api.OK},
		{"a circle", func(r *api.Reply) { r.High.Path = list(0, 5, 4) }, api.OK},
		{"a long path", func(r *api.Reply) { r.High.Path = long }, api.OK},
		{"a path that is too long", func(r *api.Reply) { r.High.Path = append(slices.Clone(long), 1, 4) }, api.ErrProof},
		{"no path", func(r *api.Reply) { r.High.Path = nil }, api.ErrProof},
		{"a tie that there is not", func(r *api.Reply) { r.High.Path = list(8) }, api.ErrProof},
		{"a path to another mark", func(r *api.Reply) { r.High.Path = list(0, 2) }, api.ErrProof},
		{"another weight of the other load", func(r *api.Reply) { r.High.Truth.Loads = list(30, 17) }, api.OK},
		{"weights that are not true", func(r *api.Reply) { r.High.Truth.Loads = list(30, 21) }, api.ErrProof},
		{"weights of too many loads", func(r *api.Reply) { r.High.Truth.Loads = list(30, 17, 0) }, api.ErrProof},
		{"a weight of a draw", func(r *api.Reply) { r.High.Truth.Draws = list(0) }, api.ErrProof},
		{"both ways", func(r *api.Reply) { r.High.Path, r.Low.Path, r.Low.Truth.Loads = list(4), list(5), list(30, 11) }, api.OK},
		{"one way wrong", func(r *api.Reply) { r.High.Path, r.Low.Path = list(4), list(4) }, api.ErrProof},
		{"the ways changed", func(r *api.Reply) { r.High, r.Low = r.Low, r.High }, api.ErrProof},
		{"a chain of more", func(r *api.Reply) { r.High.Most = 31 }, api.ErrProof},
		{"the span of another chain", func(r *api.Reply) { r.Span.Hi = 31 }, api.ErrProof},
		{"looks as well", func(r *api.Reply) { r.Bounds.Low = 1 }, api.ErrProof},
	} {
		other := cloneReply(r)
		x.change(&other)
		if e := works.CheckReply(site(), l, q, other); e != x.want {
			t.Error("P10.10:", x.name, e)
		}
	}
}

// TestOtherLooks: another look that shows the same end proves the same.
func TestOtherLooks(t *testing.T) {
	l := writs(look(31, 1, 3, 0, 950), look(32, 1, 3, 0, 950), look(33, 1, 4, 5, 1500), look(34, 0, 0, 0, 1500))
	for _, x := range []struct {
		q         api.Command
		low, high []int // the looks that may be told
		want      api.Span
	}{
		{heat(1, 3, 0), list(0, 31, 32), list(31, 32), span(0, 950)},
		{heat(1, 4, 0), list(33), list(31, 32), span(5, 970)},
		{heat(0, 0, 0), list(0, 34), list(31, 32), span(0, 1010)},
		{heat(60, 9999, 0), list(0), list(0), span(0, 1500)},
	} {
		r := works.Answer(site(), l, x.q)
		if r.Err != api.OK || r.Bounds.Span != x.want {
			t.Error("P10.9:", x.q, r)
		}
		for _, low := range list(0, 31, 32, 33, 34, 35, -1) {
			for _, high := range list(0, 31, 32, 33, 34, 35, -1) {
				r.Bounds.Low, r.Bounds.High = low, high
				want := api.ErrProof
				if slices.Contains(x.low, low) && slices.Contains(x.high, high) {
					want = api.OK
				}
				if e := works.CheckReply(site(), l, x.q, r); e != want {
					t.Error("P10.10:", x.q, low, high, e)
				}
			}
		}
	}
}

// doctored returns a reply with other weights, paths and looks, some of which may prove the same.
func (c chance) doctored(r api.Reply) api.Reply {
	r = cloneReply(r)
	chains := []*api.Chain{&r.High, &r.Low}
	for range 1 + c.IntN(2)*c.IntN(5) {
		chain := chains[c.IntN(2)]
		lists := [][]int{chain.Truth.Loads, chain.Truth.Loads, chain.Truth.Draws, chain.Truth.Draws, chain.Path}
		if l := lists[c.IntN(len(lists))]; len(l) > 0 {
			l[c.IntN(len(l))] += c.from(-2, 2)
		}
	}
	if c.IntN(2) == 0 {
		r.Bounds.Low, r.Bounds.High = r.Bounds.High*c.IntN(2), r.Bounds.Low*c.IntN(2)
	}
	return r
}

// TestRightMuch compares which replies are right with the chapter's own words.
func TestRightMuch(t *testing.T) {
	right, wrong := 0, 0
	for seed := range uint64(150) {
		c := chanceOf(40000 + seed)
		w := c.wild()
		for range 8 {
			q := c.question(w, c.IntN(11))
			r := works.Answer(w.site, w.writs, q)
			if !checkRight(t, w.site, w.writs, q, r) {
				t.Error("P10.14:", seed, q, r)
			}
			all := forged(r)
			for range 5 {
				checkRight(t, w.site, w.writs, q, all[c.IntN(len(all))])
				x := c.doctored(r)
				if equalReplies(x, r) {
					continue
				}
				if checkRight(t, w.site, w.writs, q, x) {
					right++
				} else {
					wrong++
				}
			}
		}
	}
	if right < 50 || wrong < 100 {
		t.Error("P10.10: too few cases:", right, wrong)
	}
}

// TestAccept: the index of the first reply that is not right.
func TestAccept(t *testing.T) {
	s := exampleScript(t)
	l := run(t, s)
	for i := range l {
		for _, x := range forged(l[i]) {
			other := slices.Clone(l)
			other[i] = x
			want, at := api.ErrProof, i
			if equalReplies(x, l[i]) {
				want, at = api.OK, -1
			}
			// In the example there are no other proofs, but for the weights of what is not asked about.
			if e, k := works.Accept(s, other); (e != want || k != at) && !isOtherChain(x, l[i]) {
				t.Errorf("P10.10: %d %+v: %v %v", i, x, e, k)
			}
		}
	}
	// Of several, the first one is told.
	for i := range l {
		other := slices.Clone(l)
		for k := i; k < len(l); k += 2 {
			other[k].Many++
		}
		if e, k := works.Accept(s, other); e != api.ErrProof || k != i {
			t.Error("P10.10:", i, e, k)
		}
	}
	other := slices.Clone(l)
	other[0].Err = api.ErrTwice
	other[5] = api.Reply{}
	if e, k := works.Accept(s, other); e != api.ErrProof || k != 0 {
		t.Error("P10.10:", e, k)
	}
}

// isOtherChain reports whether two replies differ in chains alone.
func isOtherChain(a, b api.Reply) bool {
	isOther := !equalChains(a.High, b.High) || !equalChains(a.Low, b.Low)
	a.High, a.Low = b.High, b.Low
	return isOther && equalReplies(a, b)
}

// TestAcceptOthers: other proofs are accepted, each for its own time.
func TestAcceptOthers(t *testing.T) {
	s := script(t, site(), "load 1 0 20 30", "weight 1 0", "weigh 21 1 1 1 20 30", "weight 1 0", "look 31 1 3 900 950", "heat 1 4 0", "look 32 1 3 900 950", "heat 1 4 0")
	l := run(t, s)
	l[3].High.Path, l[7].Bounds.Low, l[7].Bounds.High = list(2), 32, 32
	if e, at := works.Accept(s, l); e != api.OK || at != -1 {
		t.Error("P10.10:", e, at)
	}
	other := slices.Clone(l)
	other[1] = l[3]
	if e, at := works.Accept(s, other); e != api.ErrProof || at != 1 {
		t.Error("P10.10:", e, at)
	}
	other = slices.Clone(l)
	other[5] = l[7]
	if e, at := works.Accept(s, other); e != api.ErrProof || at != 5 {
		t.Error("P10.10:", e, at)
	}
}

// TestAcceptTime: replies are right for the writs at their time, not for those of another time.
func TestAcceptTime(t *testing.T) {
	s := script(t, site(), "load 1 0 20 30", "weight 1 0", "weight 1 5", "weigh 21 1 1 1 25 40", "weight 1 0", "day 5", "back 22 21", "weight 1 0", "weight 1 5", "grown 1")
	l := run(t, s)
	if e, at := works.Accept(s, l); e != api.OK || at != -1 {
		t.Error("P10.10:", e, at)
	}
	questions := list(1, 2, 4, 7, 8)
	for _, i := range questions {
		for _, k := range questions {
			other := slices.Clone(l)
			other[i] = l[k]
			e, at := works.Accept(s, other)
			if isSame := equalReplies(l[i], l[k]); isSame != (e == api.OK) || !isSame && (e != api.ErrProof || at != i) {
				t.Error("P10.10:", i, k, e, at)
			}
		}
	}
}

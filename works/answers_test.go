package works_test

import (
	"slices"
	"testing"

	"calx/api"
	"calx/book"
	"calx/shaft"
	"calx/works"
)

// TestAnswers: the chapter's examples, with what proves them.
func TestAnswers(t *testing.T) {
	s, l := site(), exampleWrits()
	k, _ := works.KilnOf(s, l, 0)
	if r := works.Answer(s, l, weight(1, 0)); r.Err != api.OK || r.Span != span(21, 30) || r.High.Most != 30 || r.Low.Most != -21 || shaft.CheckAbove(k, 0, 1, r.High) != api.OK || shaft.CheckAbove(k, 1, 0, r.Low) != api.OK {
		t.Error("P10.9:", r)
	}
	if r := works.Answer(s, l, weight(11, 0)); r.Err != api.OK || r.Span != span(15, 18) || shaft.CheckAbove(k, 0, 3, r.High) != api.OK || shaft.CheckAbove(k, 3, 0, r.Low) != api.OK {
		t.Error("P10.9:", r)
	}
	if r := works.Answer(s, l, weight(12, 0)); r.Err != api.OK || r.Span != span(20, 25) || shaft.CheckAbove(k, 3, 4, r.High) != api.OK || shaft.CheckAbove(k, 4, 3, r.Low) != api.OK {
		t.Error("P10.9:", r)
	}
	if r := works.Answer(s, l, where(2, 4, 0)); r.Err != api.OK || r.Span != span(0, 1) || r.High.Most != 15 || r.Low.Most != -5 || shaft.CheckAbove(k, 3, 1, r.High) != api.OK || shaft.CheckAbove(k, 1, 3, r.Low) != api.OK {
		t.Error("P10.9:", r)
	}
	if r := works.Answer(s, l, where(2, 8, 0)); r.Err != api.OK || r.Span != span(-2, -1) || shaft.CheckAbove(k, 4, 1, r.High) != api.OK || shaft.CheckAbove(k, 1, 4, r.Low) != api.OK {
		t.Error("P10.9:", r)
	}
	if r := works.Answer(s, l, where(2, 3, 0)); r.Err != api.OK || r.Span != span(2, 3) || shaft.CheckAbove(k, 0, 1, r.High) != api.OK {
		t.Error("P10.9:", r)
	}
	entries, _ := works.BookOf(s, l)
	root, _ := book.Root(entries)
	up, _ := book.Stands(entries, 2)
	on, _ := book.Grown(entries, 3)
	for _, x := range []struct {
		q    api.Command
		want api.Reply
	}{
		{heat(1, 4, 0), api.Reply{Bounds: api.Bounds{Span: span(890, 970), Low: 31, High: 31}}},
		{heat(60, 0, 0), api.Reply{Bounds: api.Bounds{Span: span(0, 1275), High: 31}}},
		{baked(2, 2, 4, 860, 0), api.Reply{Span: span(1, 3)}},
		{took(12, 2, 3), api.Reply{Span: span(5, 15)}},
		{barrow(42, 0), api.Reply{Parts: []api.Part{{Pour: 11, Amount: api.Ratio{Num: 10, Den: 1}}}}},
		{from(42, 0), api.Reply{Sure: list(1), Maybe: list(1)}},
		{stands(2), api.Reply{Root: root, Many: 9, Twigs: up}},
		{grown(3), api.Reply{Root: root, Many: 9, Twigs: on}},
		{stands(9), api.Reply{Err: api.ErrNone}},
		{grown(10), api.Reply{Err: api.ErrNone}},
	} {
		if r := works.Answer(s, l, x.q); !equalReplies(r, x.want) {
			t.Errorf("P10.9: %+v: %+v", x.q, r)
		}
	}
}

// TestNoQuestion: what is no question is not answered.
func TestNoQuestion(t *testing.T) {
	for _, q := range commands(api.Command{}, dayOf(0), dayOf(5), write(back(60, 1)), api.Command{Kind: 12, A: 1}, api.Command{Kind: -3}, weight(0, 0), api.Command{Kind: api.CoStands, A: 1, Known: 1}) {
		for _, l := range [][]api.Writ{nil, exampleWrits(), make([]api.Writ, 51)} {
			if r := works.Answer(site(), l, q); !equalReplies(r, api.Reply{Err: api.ErrForm}) {
				t.Error("P10.9:", q, r)
			}
		}
		for _, r := range []api.Reply{{}, {Err: api.ErrForm}, {Err: api.ErrProof}} {
			if e := works.CheckReply(site(), exampleWrits(), q, r); e != api.ErrForm {
				t.Error("P10.10:", q, e)
			}
		}
	}
}

// TestAnswerErrors: the errors of questions, in order.
func TestAnswerErrors(t *testing.T) {
	l := burnt()
	wrong := join(l, writs(weigh(60, api.WgLoads, 3, 9, 11, 11)))
	clash := join(l, writs(weigh(60, api.WgLoads, 3, 3, 11, 11)))
	torn := join(l, writs(look(61, 0, 0, 5, 5), look(62, 0, 0, 6, 6)))
	dry := join(l, writs(take(63, 3, 0, 99)))
	var many []api.Writ
	for i := range 25 {
		many = append(many, look(100+i, 0, 0, 5, 5))
	}
	for _, x := range []struct {
		name string
		l    []api.Writ
		q    api.Command
		want api.Errno
	}{
		{"weight of no kiln", wrong, weight(9, 0), api.ErrArg},
		{"weight of too many loads", loadsTo(21), weight(1, 0), api.ErrLimit},
		{"where of too many loads", loadsTo(21), where(1, 0, 0), api.ErrLimit},
		{"baked of too many loads", loadsTo(21), baked(1, 0, 0, 0, 0), api.ErrLimit},
		{"took of too many loads", loadsTo(21), took(1, 2, 0), api.ErrLimit},
		{"from of too many loads", loadsTo(21), from(1, 0), api.ErrLimit},
		{"weight of nothing", l, weight(9, 0), api.ErrNone},
		{"weight of a barrow", l, weight(51, 0), api.ErrNone},
		{"weight of nothing, and a clash", clash, weight(9, 0), api.ErrNone},
		{"weight of a clash", clash, weight(3, 0), api.ErrClash},
		{"weight where looks and pits are wrong", join(dry, torn[len(l):]), weight(3, 0), api.OK},
		{"where of no kiln", wrong, where(9, 0, 0), api.ErrArg},
		{"where of nothing", l, where(9, 0, 0), api.ErrNone},
		{"where of a draw", l, where(11, 9, 0), api.ErrNone},
		{"where ahead of the load", l, where(4, 19, 0), api.ErrArg},
		{"where in the hour of the load", l, where(4, 20, 0), api.OK},
		{"where ahead of the load, and a clash", clash, where(4, 19, 0), api.ErrArg},
		{"where of nothing, and a clash", clash, where(9, 19, 0), api.ErrNone},
		{"where of a clash", clash, where(4, 20, 0), api.ErrClash},
		{"heat of no fire", many, heat(0, 0, 0), api.ErrLimit},
		{"heat of a clash", torn, heat(0, 0, 0), api.ErrClash},
		{"heat where weights and pits are wrong", join(wrong, dry[len(l):]), heat(0, 0, 0), api.OK},
		{"baked of no kiln", wrong, baked(3, 0, 0, 0, 0), api.ErrArg},
		{"baked of no fire", join(l, many), baked(9, 0, 0, 0, 0), api.ErrLimit},
		{"baked of nothing", torn, baked(9, 0, 0, 0, 0), api.ErrNone},
		{"baked of a clash", clash, baked(3, 0, 0, 0, 0), api.ErrClash},
		{"baked of looks that do not agree", torn, baked(3, 0, 0, 0, 0), api.ErrClash},
		{"took of no kiln", wrong, took(9, 9, 0), api.ErrArg},
		{"took of no draw", clash, took(9, 3, 0), api.ErrNone},
		{"took of no load", clash, took(11, 9, 0), api.ErrNone},
		{"took of the wrong order", l, took(3, 11, 0), api.ErrNone},
		{"took of a clash", clash, took(11, 3, 0), api.ErrClash},
		{"barrow of no pits", dry, barrow(9, 0), api.ErrState},
		{"barrow of nothing", l, barrow(9, 0), api.ErrNone},
		{"barrow of a pour", l, barrow(41, 0), api.ErrNone},
		{"barrow where weights and looks are wrong", join(clash, torn[len(l):]), barrow(51, 0), api.OK},
		{"from of no kiln", join(wrong, dry[len(l):]), from(51, 0), api.ErrArg},
		{"from of no pits", join(clash, dry[len(l):]), from(9, 0), api.ErrState},
		{"from of nothing", clash, from(9, 0), api.ErrNone},
		{"from of a clash", clash, from(51, 0), api.ErrClash},
		{"stands of a wrong kiln", join(wrong, dry[len(l):], torn[len(l):]), stands(3), api.OK},
		{"stands of nothing", nil, stands(0), api.ErrNone},
		{"stands of the last writ", l, stands(len(l) - 1), api.OK},
		{"stands behind the last writ", l, stands(len(l)), api.ErrNone},
		{"grown of nothing", nil, grown(0), api.OK},
		{"grown of more than nothing", nil, grown(1), api.ErrNone},
		{"grown of all", l, grown(len(l)), api.OK},
		{"grown of more", l, grown(len(l) + 1), api.ErrNone},
	} {
		r := works.Answer(site(), x.l, x.q)
		if r.Err != x.want || r.Err != api.OK && !equalReplies(r, api.Reply{Err: x.want}) {
			t.Error("P10.9:", x.name, r)
		}
		if !equalReplies(r, answerBy(site(), x.l, x.q)) {
			t.Error("P10.9:", x.name, r)
		}
		if e := works.CheckReply(site(), x.l, x.q, r); e != api.OK {
			t.Error("P10.10:", x.name, e)
		}
	}
}

// TestNoWrits: a book without entries.
func TestNoWrits(t *testing.T) {
	r := works.Answer(site(), nil, grown(0))
	if want := (api.Reply{Root: 1000006, Twigs: []api.Twig{{Digest: 1000006}}}); !equalReplies(r, want) {
		t.Error("P10.9:", r)
	}
	if r := works.Answer(site(), nil, heat(5, 5, 5)); !equalReplies(r, api.Reply{Bounds: api.Bounds{Span: span(0, api.MaxHeat)}}) {
		t.Error("P10.9:", r)
	}
}

// TestAnswersMuch compares replies of all kinds with the chapter's own words.
func TestAnswersMuch(t *testing.T) {
	found := map[int]map[api.Errno]int{}
	for seed := range uint64(400) {
		c := chanceOf(30000 + seed)
		w := c.wild()
		for range 30 {
			q := c.question(w, c.IntN(11))
			r := works.Answer(w.site, w.writs, q)
			if want := answerBy(w.site, w.writs, q); !equalReplies(r, want) {
				t.Errorf("P10.9: %d %+v: %+v, not %+v", seed, q, r, want)
			}
			if found[q.Kind] == nil {
				found[q.Kind] = map[api.Errno]int{}
			}
			found[q.Kind][r.Err]++
		}
	}
	for kind := api.CoWeight; kind <= api.CoGrown; kind++ {
		if found[kind][api.OK] < 120 || kind != api.CoHeat && found[kind][api.ErrNone] < 15 {
			t.Error("P10.9: too few cases:", kind, found[kind])
		}
	}
	for _, kind := range list(api.CoWeight, api.CoWhere, api.CoHeat, api.CoBaked, api.CoTook, api.CoFrom) {
		if found[kind][api.ErrClash] < 10 {
			t.Error("P10.9: too few cases:", kind, found[kind])
		}
	}
}

// TestKnown: what is asked about is what is known on the day of the question.
func TestKnown(t *testing.T) {
	l := join(on(1, load(1, 0, 20, 30)), on(2, load(2, 2, 10, 15)), on(3, draw(11, 4, 15, 18)), on(5, weigh(21, api.WgLoads, 1, 2, 36, 40)), on(7, back(51, 21)), on(9, back(52, 1)))
	for known, want := range []api.Reply{{Err: api.ErrNone}, {Span: span(20, 30)}, {Span: span(20, 30)}, {Span: span(20, 30)}, {Span: span(20, 30)}, {Span: span(21, 30)}, {Span: span(21, 30)}, {Span: span(20, 30)}, {Span: span(20, 30)}, {Err: api.ErrNone}, {Err: api.ErrNone}} {
		if r := works.Answer(site(), l, weight(1, known)); r.Err != want.Err || r.Span != want.Span {
			t.Error("P10.12:", known, r)
		}
	}
	// The book tells of all writs, whenever they came to be known.
	if r := works.Answer(site(), slices.Clone(l), grown(6)); r.Err != api.OK || r.Many != 6 {
		t.Error("P10.9:", r)
	}
}

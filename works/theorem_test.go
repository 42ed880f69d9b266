package works_test

import (
	"slices"
	"testing"

	"calx/api"
	"calx/book"
	"calx/pit"
	"calx/shaft"
	"calx/works"
)

// TestText: printed scripts are read again as they were (P10.11).
func TestText(t *testing.T) {
	for seed := range uint64(100) {
		c := chanceOf(50000 + seed)
		s := c.script(c.wild())
		text, e := works.Print(s.Commands)
		l, f, at := works.Parse(text)
		if e != api.OK || f != api.OK || at != -1 || !slices.Equal(l, s.Commands) {
			t.Error("P10.11:", seed, e, f, at)
		}
		if again, e := works.Print(l); again != text || e != api.OK {
			t.Error("P10.11:", seed, e)
		}
	}
}

// without returns writs but for those that are withdrawn by a day, and what withdraws them.
func without(l []api.Writ, known int) []api.Writ {
	isBack := func(w api.Writ) bool { return w.Kind == api.WrBack && w.Known <= known }
	gone := map[int]bool{}
	for _, w := range l {
		if isBack(w) {
			gone[w.Ref] = true
		}
	}
	return slices.DeleteFunc(slices.Clone(l), func(w api.Writ) bool { return isBack(w) || gone[w.ID] && w.Kind != api.WrBack })
}

// knownBy returns the writs that are known by a day.
func knownBy(l []api.Writ, known int) []api.Writ {
	return slices.DeleteFunc(slices.Clone(l), func(w api.Writ) bool { return w.Known > known })
}

// shuffled returns writs in another order.
func (c chance) shuffled(l []api.Writ) []api.Writ {
	l = slices.Clone(l)
	c.Shuffle(len(l), func(i, k int) { l[i], l[k] = l[k], l[i] })
	return l
}

// TestLater: later writs, the order of writs, and what is withdrawn do not matter (P10.12).
func TestLater(t *testing.T) {
	told := map[int]int{}
	for seed := range uint64(120) {
		c := chanceOf(51000 + seed)
		w := c.wild()
		for range 20 {
			known := c.IntN(10)
			q := c.question(w, known)
			if q.Kind >= api.CoStands {
				continue
			}
			r := works.Answer(w.site, w.writs, q)
			for i, l := range [][]api.Writ{knownBy(w.writs, known), c.shuffled(w.writs), without(w.writs, known), without(w.writs, c.from(0, known)), c.shuffled(without(knownBy(w.writs, known), known))} {
				if x := works.Answer(w.site, l, q); !equalReplies(x, r) {
					t.Errorf("P10.12: %d %d %+v: %+v, not %+v", seed, i, q, x, r)
				}
				if e := works.CheckReply(w.site, l, q, r); e != api.OK {
					t.Errorf("P10.12: %d %d %+v: %v", seed, i, q, e)
				}
			}
			if r.Err == api.OK {
				told[q.Kind]++
			}
		}
	}
	for kind := api.CoWeight; kind <= api.CoFrom; kind++ {
		if told[kind] < 30 {
			t.Error("P10.12: too few cases:", told)
		}
	}
}

// TestBookProofs: what is told of the book proves it (P10.13).
func TestBookProofs(t *testing.T) {
	for seed := range uint64(60) {
		w := chanceOf(52000 + seed).wild()
		entries, _ := works.BookOf(w.site, w.writs)
		for i := range len(entries) + 1 {
			r := works.Answer(w.site, w.writs, grown(i))
			before, _ := book.Root(entries[:i])
			if e := book.CheckGrown(before, i, r.Root, r.Many, r.Twigs); e != api.OK || r.Err != api.OK {
				t.Error("P10.13:", seed, i, r, e)
			}
			if i == len(entries) {
				continue
			}
			r = works.Answer(w.site, w.writs, stands(i))
			at := slices.IndexFunc(w.writs, func(x api.Writ) bool { return x.ID == entries[i].Who })
			x, _ := works.EntryOf(w.site, w.writs[at])
			if e := book.CheckStands(r.Root, r.Many, i, x, r.Twigs); e != api.OK || r.Err != api.OK {
				t.Error("P10.13:", seed, i, r, e)
			}
		}
	}
}

// TestGoesOn: the book of an office only goes on (P10.13).
func TestGoesOn(t *testing.T) {
	for seed := range uint64(60) {
		c := chanceOf(53000 + seed)
		s := c.script(c.wild())
		o, _ := works.New(s.Site)
		var before []api.Entry
		for _, x := range s.Commands {
			day := o.Day()
			o.Do(x)
			entries, e := works.BookOf(s.Site, o.Writs())
			if e != api.OK || len(entries) < len(before) || !slices.Equal(entries[:len(before)], before) || o.Day() < day {
				t.Error("P10.13:", seed, x, e)
			}
			root, _ := book.Root(before)
			if r := o.Do(grown(len(before))); r.Err != api.OK || book.CheckGrown(root, len(before), r.Root, r.Many, r.Twigs) != api.OK {
				t.Error("P10.13:", seed, x, r)
			}
			before = entries
		}
	}
}

// TestAccepted: Accept accepts what Run returns (P10.14).
func TestAccepted(t *testing.T) {
	for seed := range uint64(60) {
		c := chanceOf(54000 + seed)
		s := c.script(c.wild())
		l := run(t, s)
		if e, at := works.Accept(s, l); e != api.OK || at != -1 {
			t.Error("P10.14:", seed, e, at)
		}
		i := c.IntN(len(l))
		all := forged(l[i])
		other := slices.Clone(l)
		other[i] = all[c.IntN(len(all))]
		_, books, _ := writtenBy(s)
		isRight := equalReplies(other[i], l[i])
		if s.Commands[i].Kind >= api.CoWeight {
			isRight = rightBy(s.Site, books[i], s.Commands[i], other[i])
		}
		want, index := api.ErrProof, i
		if isRight {
			want, index = api.OK, -1
		}
		if e, at := works.Accept(s, other); e != want || at != index {
			t.Error("P10.10:", seed, i, e, at)
		}
	}
}

// isWithin reports whether a number lies in a span.
func isWithin(n int, s api.Span) bool { return s.Lo <= n && n <= s.Hi }

// floor returns a quotient rounded down.
func floor(a, b int) int {
	q := a / b
	if a%b < 0 {
		q--
	}
	return q
}

// TestTrue: what is told holds for the works as they really were (P10.15).
func TestTrue(t *testing.T) {
	for seed := range uint64(120) {
		c := chanceOf(55000 + seed)
		w := c.course()
		c.later(w)
		known := 9
		if k, _ := works.KilnOf(w.site, w.writs, known); len(k.Loads) != len(w.loads) || len(k.Draws) != len(w.draws) {
			t.Error("P10.2:", seed, k)
		}
		for _, x := range w.loads {
			r := works.Answer(w.site, w.writs, weight(x.ID, known))
			if r.Err != api.OK || !isWithin(x.Weight.Lo, r.Span) {
				t.Error("P10.15:", seed, x, r)
			}
		}
		for _, x := range w.draws {
			r := works.Answer(w.site, w.writs, weight(x.ID, known))
			if r.Err != api.OK || !isWithin(x.Weight.Lo, r.Span) {
				t.Error("P10.15:", seed, x, r)
			}
		}
		truePlaces(t, w, known)
		for range 20 {
			foot, hour := c.IntN(api.MaxFeet+1), c.IntN(2*lastHour)
			r := works.Answer(w.site, w.writs, heat(foot, hour, known))
			if r.Err != api.OK || !isWithin(w.heat(foot, hour), r.Bounds.Span) {
				t.Error("P10.15:", seed, foot, hour, r)
			}
		}
	}
}

// truePlaces checks where loads lay, how much draws took of them, and for how many hours they were hot enough.
func truePlaces(t *testing.T, w *course, known int) {
	t.Helper()
	for i, x := range w.loads {
		for hour := x.Hour; hour < lastHour+3; hour++ {
			r := works.Answer(w.site, w.writs, where(x.ID, hour, known))
			if r.Err != api.OK || !isWithin(floor(w.below(i, hour), w.site.PerFoot), r.Span) {
				t.Error("P10.15:", x, hour, r)
			}
		}
		for k, y := range w.draws {
			weight := min(w.charged(i+1), w.drawnFirst(k+1)) - max(w.charged(i), w.drawnFirst(k))
			r := works.Answer(w.site, w.writs, took(y.ID, x.ID, known))
			if r.Err != api.OK || !isWithin(max(0, weight), r.Span) {
				t.Error("P10.15:", x, y, r)
			}
		}
		for need := 300; need < 1300; need += 130 {
			hot := 0
			for hour := range lastHour {
				if hour >= x.Hour && w.heat(clamp(floor(w.below(i, hour), w.site.PerFoot)), hour) >= need {
					hot++
				}
			}
			r := works.Answer(w.site, w.writs, baked(x.ID, 0, lastHour-1, need, known))
			if r.Err != api.OK || !isWithin(hot, r.Span) {
				t.Error("P10.15:", x, need, hot, r)
			}
		}
	}
}

// TestFromLoads: what is surely from a load is possibly so, and nothing is from a load that is charged behind all draws (P10.16); and what it is really from lies between.
func TestFromLoads(t *testing.T) {
	told := 0
	for seed := range uint64(1500) {
		c := chanceOf(56000 + seed)
		w := c.course()
		c.later(w)
		p, e := works.PitsOf(w.site, w.writs, 9)
		if e != api.OK {
			continue
		}
		k, _ := works.KilnOf(w.site, w.writs, 9)
		barrows, _ := pit.Barrows(p)
		for _, id := range barrows {
			r := works.Answer(w.site, w.writs, from(id, 9))
			parts := works.Answer(w.site, w.writs, barrow(id, 9)).Parts
			last := 0
			really := map[int]bool{}
			for j, y := range w.draws {
				if !slices.ContainsFunc(parts, func(x api.Part) bool { return x.Pour == y.ID }) {
					continue
				}
				last = max(last, y.Hour)
				for i, x := range w.loads {
					if min(w.charged(i+1), w.drawnFirst(j+1)) > max(w.charged(i), w.drawnFirst(j)) {
						really[x.ID] = true
					}
				}
			}
			for _, x := range k.Loads {
				sure, maybe := slices.Contains(r.Sure, x.ID), slices.Contains(r.Maybe, x.ID)
				if sure && !maybe || maybe && x.Hour > last || sure && !really[x.ID] || really[x.ID] && !maybe {
					t.Error("P10.16:", seed, id, x, r)
				}
			}
			if r.Err != api.OK || !slices.IsSorted(r.Sure) || !slices.IsSorted(r.Maybe) {
				t.Error("P10.16:", seed, id, r)
			}
			told += len(r.Maybe)
		}
	}
	if told < 300 {
		t.Error("P10.16: too few cases:", told)
	}
}

// TestAttained: a pound less, or more, is not told, since weights that are true attain what is told (P10.15, T1).
func TestAttained(t *testing.T) {
	for seed := range uint64(200) {
		c := chanceOf(57000 + seed)
		w := c.course()
		k, _ := works.KilnOf(w.site, w.writs, 0)
		for _, x := range w.loads {
			r := works.Answer(w.site, w.writs, weight(x.ID, 0))
			if _, fits, e := shaft.Fits(k, r.High.Truth); !fits || e != api.OK {
				t.Error("P10.15:", seed, x, r)
			}
			i := slices.IndexFunc(k.Loads, func(y api.Load) bool { return y.ID == x.ID })
			if r.High.Truth.Loads[i] != r.Span.Hi || r.Low.Truth.Loads[i] != r.Span.Lo {
				t.Error("P10.15:", seed, x, r)
			}
		}
	}
}

package recall_test

import (
	"math/bits"
	"slices"
	"testing"

	"calx/api"
	"calx/recall"
)

// model follows great lineages: nodes are bits, by their place.
type model struct {
	l     api.Lineage
	place map[int]int
}

func modelOf(l api.Lineage) model {
	m := model{l, map[int]int{}}
	for i, x := range l.Nodes {
		m.place[x.ID] = i
	}
	return m
}

func (m model) bitsOf(ids []int) uint64 {
	var b uint64
	for _, id := range ids {
		b |= 1 << m.place[id]
	}
	return b
}

// ids returns the IDs of nodes, in order.
func (m model) ids(b uint64) []int {
	var l []int
	for i, x := range m.l.Nodes {
		if b>>i&1 == 1 {
			l = append(l, x.ID)
		}
	}
	slices.Sort(l)
	return l
}

// each calls a function with every case, by a number that has a digit for each record, and what comes from some nodes in it, as long as it answers true.
func (m model) each(from []int, isLeft func(link int, o api.Hop) bool, do func(c []int, reached uint64) bool) {
	many := 1
	for _, x := range m.l.Claims {
		many *= len(x.Options)
	}
	c := make([]int, len(m.l.Claims))
	hops := make([][2]uint64, len(m.l.Claims))
	for number := range many {
		hops = hops[:0]
		for i, x := range m.l.Claims {
			c[i] = number % len(x.Options)
			number /= len(x.Options)
			if o := x.Options[c[i]]; isLeft(x.ID, o) {
				hops = append(hops, [2]uint64{1 << m.place[o.From], 1 << m.place[o.To]})
			}
		}
		reached, before := m.bitsOf(from), uint64(0)
		for reached != before {
			before = reached
			for _, h := range hops {
				if reached&h[0] != 0 {
					reached |= h[1]
				}
			}
		}
		if !do(c, reached) {
			return
		}
	}
}

func isLeft(int, api.Hop) bool { return true }

// ends returns what comes from some nodes in all of the cases that have an option at an index (at any, if that is -1), and in some.
func (m model) ends(from []int, i, option int) (uint64, uint64) {
	sure, possible := ^uint64(0), uint64(0)
	m.each(from, isLeft, func(c []int, reached uint64) bool {
		if i < 0 || c[i] == option {
			sure &= reached
			possible |= reached
		}
		return true
	})
	return sure, possible
}

func (m model) isPossible(from []int, to int, isLeft func(link int, o api.Hop) bool) bool {
	found, wanted := false, m.bitsOf(list(to))
	m.each(from, isLeft, func(c []int, reached uint64) bool {
		found = reached&wanted != 0
		return !found
	})
	return found
}

// left returns the least that a record leaves in doubt, and the record.
func (m model) left(from []int) (int, int) {
	best, least := 0, -1
	for i, x := range m.l.Claims {
		if len(x.Options) == 1 {
			continue
		}
		most := 0
		for at := range x.Options {
			sure, possible := m.ends(from, i, at)
			_, cost := wallsOf(m.l, m.ids(possible&^sure))
			most = max(most, cost)
		}
		if least < 0 || most < least || most == least && x.ID < best {
			best, least = x.ID, most
		}
	}
	return best, least
}

// greatest returns a lineage of as many nodes, records and cases as there may be: its options lead a few levels up.
func (c chance) greatest() api.Lineage {
	var l api.Lineage
	for i, id := range c.ids(api.MaxNodes) {
		l.Nodes = append(l.Nodes, node(id, i*10/api.MaxNodes, c.IntN(api.MaxCost9)))
	}
	step := func() api.Hop {
		for {
			x, y := l.Nodes[c.IntN(len(l.Nodes))], l.Nodes[c.IntN(len(l.Nodes))]
			if x.Level < y.Level && y.Level < x.Level+4 {
				return hop(x.ID, y.ID)
			}
		}
	}
	options := c.from(0, 1)*2 + 2
	open := 12 * 2 / options
	for i, id := range c.ids(api.MaxClaims) {
		x := claim(id, step())
		for i < open && len(x.Options) < options {
			if o := step(); !slices.Contains(x.Options, o) {
				x.Options = append(x.Options, o)
			}
		}
		l.Claims = append(l.Claims, x)
	}
	return c.shuffled(l)
}

// TestGreatest: the greatest lineages, as they are counted out.
func TestGreatest(t *testing.T) {
	c := chanceOf(81)
	for range 4 {
		l := c.greatest()
		if n, e := recall.Cases(l); n != api.MaxCases || e != api.OK {
			t.Fatal("P9.1:", n, e)
		}
		m := modelOf(l)
		from := c.some(l)
		sure, possible := m.ends(from, -1, 0)
		if got := surely(l, from); !slices.Equal(got, m.ids(sure&(1<<len(l.Nodes)-1))) {
			t.Error("P9.2:", l, from, got)
		}
		if got := possibly(l, from); !slices.Equal(got, m.ids(possible)) {
			t.Error("P9.2:", l, from, got)
		}
		id, left, e := recall.Ask(l, from)
		if best, least := m.left(from); id != best || left != least || e != api.OK {
			t.Error("P9.10:", l, from, id, left, e)
		}
		counts := make([]int, len(l.Nodes))
		m.each(from, isLeft, func(c []int, reached uint64) bool {
			for b := reached; b != 0; b &= b - 1 {
				counts[bits.TrailingZeros64(b)]++
			}
			return true
		})
		for i, x := range l.Nodes[:20] {
			if r, e := recall.Share(l, from, x.ID); e != api.OK || r.Num*api.MaxCases != counts[i]*r.Den {
				t.Error("P9.8:", l, from, x, r, e)
			}
		}
		ids := m.ids(possible)
		for range 6 {
			checkGreat(t, m, from, ids[c.IntN(len(ids))])
		}
	}
}

// checkGreat holds what leads to a node of a great lineage against what is counted out.
func checkGreat(t *testing.T, m model, from []int, to int) {
	t.Helper()
	x, e := recall.Way(m.l, from, to)
	if e != api.OK || recall.CheckWay(m.l, from, to, x) != api.OK || !isTrace(m.l, from, to, x) {
		t.Error("P9.3:", m.l, from, to, x, e)
	}
	hangs, e1 := recall.Hangs(m.l, from, to)
	gates, e2 := recall.Gates(m.l, from, to)
	if max(e1, e2) != api.OK || !isPart(hangs, x.Claims) {
		t.Error("P9.6:", m.l, from, to, hangs, gates, e1, e2)
	}
	// What is not in one trace can be left out: only the records and nodes of the trace have to be looked at.
	for _, link := range x.Claims {
		possible := m.isPossible(from, to, func(other int, o api.Hop) bool { return other != link })
		if possible == slices.Contains(hangs, link) {
			t.Error("P9.6:", m.l, from, to, link, hangs)
		}
		i := slices.IndexFunc(m.l.Claims, func(x api.Claim) bool { return x.ID == link })
		gate := m.l.Claims[i].Options[x.Case[i]].To
		possible = m.isPossible(from, to, func(other int, o api.Hop) bool { return o.To != gate })
		if gate != to && possible == slices.Contains(gates, gate) {
			t.Error("P9.6:", m.l, from, to, gate, gates)
		}
	}
	if cut, e := recall.Cut(m.l, from, to); !slices.Contains(from, to) {
		rest := less(m.l, cut...)
		if e != api.OK || slices.Contains(possibly(rest, from), to) || recall.CheckCut(m.l, from, to, cut) != api.OK {
			t.Error("P9.16:", m.l, from, to, cut, e)
		}
		for i := range cut {
			if e := recall.CheckCut(m.l, from, to, slices.Delete(slices.Clone(cut), i, i+1)); e != api.ErrProof {
				t.Error("P9.16:", m.l, from, to, cut, i, e)
			}
		}
	}
}

// TestNever: all options together lead to a wall, but no case out of as many as there may be does.
func TestNever(t *testing.T) {
	n := nodes(node(1, 0, 0), node(2, 4, 0), node(3, 9, 8), node(4, 5, 0), node(5, 6, 0))
	l := lineage(n, claim(1, hop(1, 2), hop(2, 3)))
	for id := 2; id <= api.MaxClaims; id++ {
		x := claim(id, hop(4, 5))
		if id <= 12 {
			x.Options = append(x.Options, hop(4, 3))
		}
		l.Claims = append(l.Claims, x)
	}
	if n, e := recall.Cases(l); n != api.MaxCases || e != api.OK {
		t.Fatal("P9.1:", n, e)
	}
	if x, e := recall.Way(l, list(1), 3); e != api.ErrNone || len(x.Case) > 0 {
		t.Error("P9.3:", x, e)
	}
	if cut, e := recall.Cut(l, list(1), 3); len(cut) != 0 || e != api.OK {
		t.Error("P9.7:", cut, e)
	}
	if r, e := recall.Share(l, list(1), 3); e != api.OK || r != (api.Ratio{Num: 0, Den: 1}) {
		t.Error("P9.8:", r, e)
	}
	if r, e := recall.Share(l, list(4), 3); e != api.OK || r != (api.Ratio{Num: 2047, Den: 2048}) {
		t.Error("P9.8:", r, e)
	}
	if got := surely(l, list(1, 4)); !slices.Equal(got, list(1, 4, 5)) {
		t.Error("P9.2:", got)
	}
	if cut, e := recall.Cut(l, list(4), 3); !slices.Equal(cut, list(2, 3, 4, 5, 6, 7, 8, 9, 10, 11, 12)) || e != api.OK {
		t.Error("P9.7:", cut, e)
	}
}

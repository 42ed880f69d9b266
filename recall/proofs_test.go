package recall_test

import (
	"math"
	"slices"
	"testing"

	"calx/api"
	"calx/recall"
)

func TestWayByHand(t *testing.T) {
	if x, e := recall.Way(example(), list(2), 6); !slices.Equal(x.Case, list(0, 1, 0, 1)) || !slices.Equal(x.Claims, list(12, 14)) || e != api.OK {
		t.Error("P9.3:", x, e)
	}
	if x, e := recall.Way(example(), list(1), 1); len(x.Case) != 4 || len(x.Claims) != 0 || e != api.OK {
		t.Error("P9.3:", x, e)
	}
	if x, e := recall.Way(lineage(exampleNodes()), list(5), 5); len(x.Case) != 0 || len(x.Claims) != 0 || e != api.OK {
		t.Error("P9.3:", x, e)
	}
	if x, e := recall.Way(either(), list(1, 2), 3); !slices.Equal(x.Case, list(1)) || !slices.Equal(x.Claims, list(7)) || e != api.OK {
		t.Error("P9.3:", x, e)
	}
}

func TestCheckWayByHand(t *testing.T) {
	c := list(0, 1, 0, 1)
	for i, x := range []struct {
		from []int
		to   int
		t    api.Trace
		want api.Errno
	}{
		{list(2), 6, trace(c, 12, 14), api.OK},
		{list(1), 5, trace(c, 11, 13), api.OK},
		{list(1, 2), 5, trace(c, 11, 13), api.OK},
		{list(1, 3), 5, trace(c, 13), api.OK},
		// One may go a long way though the node is one of those that one comes from.
		{list(1, 5), 5, trace(c, 11, 13), api.OK},
		{list(1, 5), 5, trace(c), api.OK},
		{list(1, 5), 5, trace(c, 13), api.ErrProof},
		{list(2, 4), 4, trace(c, 12), api.OK},
		{list(1, 3), 5, trace(c, 11), api.ErrProof},
		{list(2), 6, trace(c), api.ErrProof},
		{list(2), 2, trace(c), api.OK},
		{list(2), 2, trace(c, 12), api.ErrProof},
		{list(2), 6, trace(c, 14), api.ErrProof},
		{list(2), 6, trace(c, 12), api.ErrProof},
		{list(2), 6, trace(c, 14, 12), api.ErrProof},
		{list(2), 6, trace(c, 12, 12), api.ErrProof},
		{list(2), 6, trace(c, 12, 12, 14), api.ErrProof},
		{list(2), 6, trace(c, 12, 14, 14), api.ErrProof},
		{list(2), 6, trace(c, 11, 14), api.ErrProof},
		{list(1), 6, trace(c, 12, 14), api.ErrProof},
		{list(2), 5, trace(c, 12, 14), api.ErrProof},
		{list(2), 6, trace(list(0, 0, 0, 1), 12, 14), api.ErrProof},
		{list(2), 6, trace(list(0, 1, 0, 0), 12, 14), api.ErrProof},
		{list(1), 6, trace(list(0, 0, 0, 1), 12, 14), api.OK},
		{list(2), 6, trace(c, 12, 15), api.ErrProof},
		{list(2), 6, trace(c, 12, 0), api.ErrProof},
		{list(2), 6, trace(c, 1, 3), api.ErrProof},
		{list(2), 6, trace(c, math.MaxInt, math.MinInt), api.ErrProof},
		{list(2), 6, trace(c, make([]int, 100000)...), api.ErrProof},
		{list(2), 6, trace(c, slices.Repeat(list(12, 14), 50000)...), api.ErrProof},
		{list(2), 6, trace(list(0, 1, 0, 2), 12, 14), api.ErrProof},
		{list(2), 6, trace(list(0, 1, 1, 1), 12, 14), api.ErrProof},
		{list(2), 6, trace(list(-1, 1, 0, 1), 12, 14), api.ErrProof},
		{list(2), 6, trace(list(0, 1, 0), 12, 14), api.ErrProof},
		{list(2), 6, trace(list(0, 1, 0, 1, 0), 12, 14), api.ErrProof},
		{list(2), 6, trace(nil, 12, 14), api.ErrProof},
		{list(2), 2, trace(nil), api.ErrProof},
		{list(2), 2, trace(list(0, 1, 0, 2)), api.ErrProof},
		{list(2), 2, trace(list(0, math.MaxInt, 0, math.MinInt)), api.ErrProof},
	} {
		if e := recall.CheckWay(example(), x.from, x.to, x.t); e != x.want {
			t.Error("P9.3:", i, e)
		}
	}
	if e := recall.CheckWay(lineage(exampleNodes()), list(2), 2, api.Trace{}); e != api.OK {
		t.Error("P9.3: no records:", e)
	}
	for at := range 2 {
		if e := recall.CheckWay(either(), list(1), 3, trace(list(at), 7, 7)); e != api.ErrProof {
			t.Error("P9.3: a record twice:", e)
		}
	}
}

func TestClearByHand(t *testing.T) {
	c, e := recall.Clear(example(), list(1), 6)
	if e != api.OK || !slices.Equal(c, list(0, 0, 0, 0)) && !slices.Equal(c, list(0, 1, 0, 0)) && !slices.Equal(c, list(0, 1, 0, 1)) {
		t.Error("P9.4:", c, e)
	}
	if c, e := recall.Clear(either(), list(2), 3); !slices.Equal(c, list(0)) || e != api.OK {
		t.Error("P9.4:", c, e)
	}
	if c, e := recall.Clear(lineage(exampleNodes()), list(1), 6); len(c) != 0 || e != api.OK {
		t.Error("P9.4:", c, e)
	}
	for _, x := range []struct {
		from   []int
		to     int
		choice []int
		want   api.Errno
	}{
		{list(1), 6, list(0, 0, 0, 0), api.OK}, {list(1), 6, list(0, 1, 0, 0), api.OK}, {list(1), 6, list(0, 1, 0, 1), api.OK}, {list(1), 6, list(0, 0, 0, 1), api.ErrProof},
		{list(2), 6, list(0, 1, 0, 1), api.ErrProof}, {list(1, 2), 6, list(0, 1, 0, 1), api.ErrProof}, {list(6), 6, list(0, 0, 0, 0), api.ErrProof}, {list(5), 6, list(0, 0, 0, 1), api.OK},
		{list(1), 5, list(0, 1, 0, 1), api.ErrProof}, {list(5), 1, list(0, 1, 0, 1), api.OK},
	} {
		if e := recall.CheckClear(example(), x.from, x.to, x.choice); e != x.want {
			t.Error("P9.4:", x, e)
		}
	}
}

// TestProofs: each node has a way if it is possible, and a clear case if it is not sure; both are accepted, and right by what is counted out.
func TestProofs(t *testing.T) {
	ways, clears, both := 0, 0, 0
	many(t, 31, 400, func(c chance, l api.Lineage, from []int) {
		for _, to := range idsOf(l) {
			x, e := recall.Way(l, from, to)
			switch {
			case !isPossible(l, from, to):
				if e != api.ErrNone || len(x.Case) > 0 || len(x.Claims) > 0 {
					t.Fatal("P9.12:", l, from, to, x, e)
				}
			case e != api.OK || !isTrace(l, from, to, x) || recall.CheckWay(l, from, to, x) != api.OK:
				t.Fatal("P9.12:", l, from, to, x, e)
			default:
				ways++
			}
			choice, e2 := recall.Clear(l, from, to)
			switch {
			case isSure(l, from, to):
				if e2 != api.ErrNone || len(choice) > 0 {
					t.Fatal("P9.12:", l, from, to, choice, e2)
				}
			case e2 != api.OK || slices.Contains(reachedBy(from, trueIn(l, choice)), to) || recall.CheckClear(l, from, to, choice) != api.OK:
				t.Fatal("P9.12:", l, from, to, choice, e2)
			default:
				clears++
			}
			if e == api.OK && e2 == api.OK {
				both++
			}
		}
	})
	if ways < 500 || clears < 500 || both < 200 {
		t.Error("too few proofs:", ways, clears, both)
	}
}

// TestForgedWays: traces at random are accepted just if they lead there in the chapter's words; then the node is reached in their case.
func TestForgedWays(t *testing.T) {
	accepted, refused := 0, 0
	many(t, 32, 400, func(c chance, l api.Lineage, from []int) {
		for _, to := range idsOf(l) {
			x, e := recall.Way(l, from, to)
			if e != api.OK {
				x = trace(make([]int, len(l.Claims)))
			}
			for range 6 {
				y := c.forged(l, trace(slices.Clone(x.Case), slices.Clone(x.Claims)...))
				e := recall.CheckWay(l, from, to, y)
				if !isTrace(l, from, to, y) {
					refused++
					if e != api.ErrProof {
						t.Fatal("P9.3:", l, from, to, y, e)
					}
					continue
				}
				accepted++
				got, e2 := recall.Reach(l, from, y.Case)
				if e != api.OK || e2 != api.OK || !slices.Contains(got, to) {
					t.Fatal("P9.12:", l, from, to, y, e, got, e2)
				}
			}
		}
	})
	if accepted < 500 || refused < 1000 {
		t.Error("too few traces of a sort:", accepted, refused)
	}
}

// forged returns a trace with something changed.
func (c chance) forged(l api.Lineage, x api.Trace) api.Trace {
	if len(x.Case) > 0 && c.IntN(2) == 0 {
		i := c.IntN(len(x.Case))
		x.Case[i] = c.from(-1, len(l.Claims[i].Options))
	}
	switch i := c.IntN(len(x.Claims) + 1); c.IntN(5) {
	case 0:
		x.Claims = x.Claims[:i]
	case 1:
		x.Claims = x.Claims[i:]
	case 2:
		if len(l.Claims) > 0 {
			x.Claims = slices.Insert(x.Claims, i, l.Claims[c.IntN(len(l.Claims))].ID)
		}
	case 3:
		if i < len(x.Claims) {
			x.Claims[i] = l.Claims[c.IntN(len(l.Claims))].ID
		}
	}
	return x
}

// TestForgedCases: a case is accepted just if the node does not come in it.
func TestForgedCases(t *testing.T) {
	many(t, 33, 300, func(c chance, l api.Lineage, from []int) {
		for _, choice := range casesOf(l) {
			got := reachedBy(from, trueIn(l, choice))
			for _, to := range idsOf(l) {
				want := api.OK
				if slices.Contains(got, to) {
					want = api.ErrProof
				}
				if e := recall.CheckClear(l, from, to, choice); e != want {
					t.Fatal("P9.4:", l, from, to, choice, e)
				}
			}
		}
	})
}

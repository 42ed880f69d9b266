package recall_test

import (
	"slices"
	"testing"

	"calx/api"
	"calx/recall"
)

func TestReachByHand(t *testing.T) {
	for _, x := range []struct {
		l            api.Lineage
		from, choice []int
		want         []int
	}{
		{example(), list(2), list(0, 1, 0, 1), list(2, 4, 6)},
		{example(), list(1), list(0, 0, 0, 0), list(1, 3, 4, 5)},
		{example(), list(1), list(0, 1, 0, 0), list(1, 3, 5)},
		{example(), list(1, 2), list(0, 1, 0, 1), list(1, 2, 3, 4, 5, 6)},
		{example(), list(2), list(0, 0, 0, 1), list(2)},
		{example(), list(3), list(0, 0, 0, 0), list(3, 5)},
		{example(), list(5), list(0, 0, 0, 0), list(5)},
		{example(), list(2, 5, 6), list(0, 0, 0, 0), list(2, 5, 6)},
		{either(), list(1), list(0), list(1, 2)},
		{either(), list(1), list(1), list(1)},
		{either(), list(2), list(1), list(2, 3)},
		{lineage(exampleNodes()), list(1, 6), nil, list(1, 6)},
		{lineage(exampleNodes()), list(2), list(), list(2)},
	} {
		if l, e := recall.Reach(x.l, x.from, x.choice); !slices.Equal(l, x.want) || e != api.OK {
			t.Error("P9.2:", x, l, e)
		}
	}
}

// TestOrder: the order in which records stand does not tell how they follow each other.
func TestOrder(t *testing.T) {
	steps := claims(claim(1, hop(10, 9)), claim(2, hop(9, 8)), claim(3, hop(8, 7)), claim(4, hop(7, 6)), claim(5, hop(6, 5)), claim(6, hop(5, 4)), claim(7, hop(4, 3)), claim(8, hop(3, 2)), claim(9, hop(2, 1)))
	var n []api.Node
	for i := range 10 {
		n = append(n, node(10-i, i, 1))
	}
	c := chanceOf(11)
	for range 100 {
		l := c.shuffled(lineage(n, steps...))
		if got, e := recall.Reach(l, list(10), make([]int, 9)); !slices.Equal(got, list(1, 2, 3, 4, 5, 6, 7, 8, 9, 10)) || e != api.OK {
			t.Error("P9.2:", l, got, e)
		}
		if x, e := recall.Way(l, list(10), 1); e != api.OK || !slices.Equal(x.Claims, list(1, 2, 3, 4, 5, 6, 7, 8, 9)) {
			t.Error("P9.3:", l, x, e)
		}
		if got, e := recall.Gates(l, list(10), 1); !slices.Equal(got, list(2, 3, 4, 5, 6, 7, 8, 9)) || e != api.OK {
			t.Error("P9.6:", l, got, e)
		}
		if got, e := recall.Hangs(l, list(10), 1); !slices.Equal(got, list(1, 2, 3, 4, 5, 6, 7, 8, 9)) || e != api.OK {
			t.Error("P9.6:", l, got, e)
		}
	}
}

func TestSureByHand(t *testing.T) {
	doubled := lineage(nodes(node(1, 0, 0), node(2, 4, 0), node(3, 5, 0), node(4, 9, 1)), claim(1, hop(1, 2), hop(1, 3)), claim(2, hop(2, 4)), claim(3, hop(3, 4)))
	for _, x := range []struct {
		l              api.Lineage
		from           []int
		sure, possible []int
	}{
		{example(), list(1), list(1, 3, 5), list(1, 3, 4, 5, 6)},
		{example(), list(2), list(2), list(2, 4, 5, 6)},
		{example(), list(1, 2), list(1, 2, 3, 4, 5), list(1, 2, 3, 4, 5, 6)},
		{example(), list(4), list(4), list(4, 5, 6)},
		{example(), list(6), list(6), list(6)},
		// Both steps are possible, but never in the same case.
		{either(), list(1), list(1), list(1, 2)},
		{either(), list(1, 2), list(1, 2), list(1, 2, 3)},
		// In each case 4 is reached, in each one otherwise.
		{doubled, list(1), list(1, 4), list(1, 2, 3, 4)},
		{lineage(exampleNodes()), list(2, 5), list(2, 5), list(2, 5)},
	} {
		if l, e := recall.Surely(x.l, x.from); !slices.Equal(l, x.sure) || e != api.OK {
			t.Error("P9.2:", x, l, e)
		}
		if l, e := recall.Possibly(x.l, x.from); !slices.Equal(l, x.possible) || e != api.OK {
			t.Error("P9.2:", x, l, e)
		}
	}
}

func TestOriginsByHand(t *testing.T) {
	for _, x := range []struct {
		l              api.Lineage
		to             int
		sure, possible []int
	}{
		{example(), 5, list(1), list(1, 2)},
		{example(), 6, nil, list(1, 2)},
		{example(), 4, nil, list(1, 2)},
		{example(), 3, list(1), list(1)},
		{example(), 1, list(1), list(1)},
		{example(), 2, list(2), list(2)},
		{either(), 3, nil, nil},
		{either(), 2, nil, list(1)},
		{lineage(exampleNodes()), 5, nil, nil},
		// What comes from one of two charges surely comes from neither alone.
		{lineage(nodes(node(9, 0, 0), node(2, 0, 0), node(3, 9, 0)), claim(1, hop(9, 3), hop(2, 3))), 3, nil, list(2, 9)},
		{lineage(nodes(node(9, 0, 0), node(2, 0, 0), node(3, 9, 0)), claim(1, hop(9, 3)), claim(2, hop(2, 3))), 3, list(2, 9), list(2, 9)},
		// A node of level 1 that nothing leads to is no charge.
		{lineage(nodes(node(1, 1, 0), node(3, 9, 0)), claim(1, hop(1, 3))), 3, nil, nil},
	} {
		sure, possible, e := recall.Origins(x.l, x.to)
		if !slices.Equal(sure, x.sure) || !slices.Equal(possible, x.possible) || e != api.OK {
			t.Error("P9.5:", x, sure, possible, e)
		}
	}
}

func TestShareByHand(t *testing.T) {
	thirds := lineage(exampleNodes(), claim(1, hop(1, 3), hop(1, 4), hop(2, 4)), claim(2, hop(3, 5)), claim(3, hop(4, 5), hop(4, 6)))
	for _, x := range []struct {
		l    api.Lineage
		from []int
		to   int
		want api.Ratio
	}{
		{example(), list(1), 6, api.Ratio{Num: 1, Den: 4}},
		{example(), list(2), 5, api.Ratio{Num: 1, Den: 4}},
		{example(), list(1), 5, api.Ratio{Num: 1, Den: 1}},
		{example(), list(1, 2), 6, api.Ratio{Num: 1, Den: 2}},
		{example(), list(5), 6, api.Ratio{Num: 0, Den: 1}},
		{example(), list(5), 5, api.Ratio{Num: 1, Den: 1}},
		{either(), list(1), 3, api.Ratio{Num: 0, Den: 1}},
		{thirds, list(1), 5, api.Ratio{Num: 1, Den: 2}},
		{thirds, list(1), 3, api.Ratio{Num: 1, Den: 3}},
		{thirds, list(2), 4, api.Ratio{Num: 1, Den: 3}},
		{thirds, list(1), 6, api.Ratio{Num: 1, Den: 6}},
		{thirds, list(1, 2), 5, api.Ratio{Num: 2, Den: 3}},
		{lineage(exampleNodes()), list(1), 6, api.Ratio{Num: 0, Den: 1}},
		{lineage(exampleNodes()), list(6), 6, api.Ratio{Num: 1, Den: 1}},
	} {
		if r, e := recall.Share(x.l, x.from, x.to); r != x.want || e != api.OK {
			t.Error("P9.8:", x, r, e)
		}
	}
}

// many does something with many small lineages, and some nodes of each.
func many(t *testing.T, seed uint64, times int, do func(c chance, l api.Lineage, from []int)) {
	t.Helper()
	c := chanceOf(seed)
	for range times {
		l := c.lineage(c.from(2, 9), c.from(0, 9), 128)
		if e := recall.Check(l); e != api.OK {
			t.Fatal("P9.1:", l, e)
		}
		do(c, l, c.some(l))
	}
}

func surely(l api.Lineage, from []int) []int {
	sure, _ := recall.Surely(l, from)
	return sure
}

func possibly(l api.Lineage, from []int) []int {
	possible, _ := recall.Possibly(l, from)
	return possible
}

// isPart reports whether all of a list is in another one.
func isPart(l, whole []int) bool {
	return !slices.ContainsFunc(l, func(x int) bool { return !slices.Contains(whole, x) })
}

// TestReach: what comes from nodes in each case, in all, and in some, is what is counted out (T9).
func TestReach(t *testing.T) {
	doubts := 0
	many(t, 21, 400, func(c chance, l api.Lineage, from []int) {
		for _, choice := range casesOf(l) {
			if got, e := recall.Reach(l, from, choice); !slices.Equal(got, reachedBy(from, trueIn(l, choice))) || e != api.OK {
				t.Fatal("P9.2:", l, from, choice, got, e)
			}
		}
		sure, e1 := recall.Surely(l, from)
		possible, e2 := recall.Possibly(l, from)
		if !slices.Equal(sure, sureOf(l, from)) || !slices.Equal(possible, possibleOf(l, from)) || max(e1, e2) != api.OK {
			t.Fatal("P9.2:", l, from, sure, possible, e1, e2)
		}
		if !isPart(sure, possible) || !isPart(from, sure) {
			t.Fatal("P9.12:", l, from, sure, possible)
		}
		if len(sure) < len(possible) {
			doubts++
		}
	})
	if doubts < 100 {
		t.Error("too few lineages with doubts:", doubts)
	}
}

func TestOrigins(t *testing.T) {
	found := 0
	many(t, 22, 300, func(c chance, l api.Lineage, from []int) {
		for _, to := range idsOf(l) {
			sure, possible, e := recall.Origins(l, to)
			wantSure, wantPossible := originsOf(l, to)
			if !slices.Equal(sure, wantSure) || !slices.Equal(possible, wantPossible) || e != api.OK {
				t.Fatal("P9.5:", l, to, sure, possible, e)
			}
			if len(sure) < len(possible) {
				found++
			}
		}
	})
	if found < 100 {
		t.Error("too few origins in doubt:", found)
	}
}

// TestShare: the shares are those counted out; they tell what is sure, and what is possible.
func TestShare(t *testing.T) {
	found := 0
	many(t, 23, 300, func(c chance, l api.Lineage, from []int) {
		for _, to := range idsOf(l) {
			r, e := recall.Share(l, from, to)
			if r != shareOf(l, from, to) || e != api.OK {
				t.Fatal("P9.8:", l, from, to, r, e)
			}
			if (r == api.Ratio{Num: 1, Den: 1}) != slices.Contains(surely(l, from), to) || r.Num > 0 != slices.Contains(possibly(l, from), to) {
				t.Fatal("P9.17:", l, from, to, r)
			}
			if r.Den > 2 {
				found++
			}
		}
	})
	if found < 100 {
		t.Error("too few shares of a sort:", found)
	}
}

// TestMean: a share is the mean of the shares after each option of a record is told.
func TestMean(t *testing.T) {
	many(t, 24, 200, func(c chance, l api.Lineage, from []int) {
		for _, to := range idsOf(l) {
			whole, _ := recall.Share(l, from, to)
			for _, x := range l.Claims {
				num, den := 0, 1
				for at := range x.Options {
					told, e := recall.Told(l, x.ID, at)
					r, e2 := recall.Share(told, from, to)
					if max(e, e2) != api.OK {
						t.Fatal("P9.17:", l, x, e, e2)
					}
					num, den = num*r.Den+r.Num*den, den*r.Den
				}
				if whole.Num*den*len(x.Options) != whole.Den*num {
					t.Fatal("P9.17:", l, from, to, x, whole, num, den)
				}
			}
		}
	})
}

// TestMore: from more nodes, and with a further record, no less comes.
func TestMore(t *testing.T) {
	many(t, 25, 300, func(c chance, l api.Lineage, from []int) {
		sure, possible := surely(l, from), possibly(l, from)
		more := append(slices.Clone(from), c.some(l)...)
		slices.Sort(more)
		more = slices.Compact(more)
		if !isPart(sure, surely(l, more)) || !isPart(possible, possibly(l, more)) {
			t.Error("P9.13:", l, from, more)
		}
		for i, x := range l.Claims {
			fewer := less(l, x.ID)
			if !isPart(surely(fewer, from), sure) || !isPart(possibly(fewer, from), possible) {
				t.Error("P9.13:", l, from, i)
			}
		}
	})
}

// TestAnyOrder: the order of nodes and records does not matter.
func TestAnyOrder(t *testing.T) {
	many(t, 26, 150, func(c chance, l api.Lineage, from []int) {
		for range 4 {
			m := c.shuffled(l)
			if !slices.Equal(surely(l, from), surely(m, from)) || !slices.Equal(possibly(l, from), possibly(m, from)) {
				t.Error("P9.19:", l, m, from)
			}
			for _, to := range idsOf(l) {
				r, _ := recall.Share(l, from, to)
				if again, e := recall.Share(m, from, to); r != again || e != api.OK {
					t.Error("P9.19:", l, m, from, to, r, again, e)
				}
			}
		}
	})
}

package recall_test

import (
	"slices"
	"testing"

	"calx/api"
	"calx/recall"
)

func TestHangsByHand(t *testing.T) {
	// Two ways lead from 1 to 5, both through 3 and by the record 9.
	rhombus := lineage(nodes(node(1, 0, 0), node(2, 1, 0), node(3, 2, 0), node(4, 1, 0), node(5, 9, 0)),
		claim(9, hop(3, 5)), claim(8, hop(1, 2)), claim(7, hop(1, 4)), claim(6, hop(2, 3)), claim(5, hop(4, 3)))
	// The same, but that one record has one step of each way.
	tied := lineage(rhombus.Nodes, claim(9, hop(3, 5)), claim(8, hop(1, 2), hop(1, 4)), claim(6, hop(2, 3)), claim(5, hop(4, 3)))
	// All options that lead to a gate are left out, also several of one record.
	twice := lineage(nodes(node(1, 0, 0), node(2, 3, 0), node(3, 9, 0), node(4, 1, 0)), claim(1, hop(1, 2), hop(4, 2)), claim(2, hop(2, 3), hop(1, 4)), claim(3, hop(1, 4)))
	for _, x := range []struct {
		l            api.Lineage
		from         []int
		to           int
		hangs, gates []int
	}{
		{example(), list(1), 6, list(12, 14), list(4)},
		{example(), list(2), 6, list(12, 14), list(4)},
		{example(), list(1), 5, nil, nil},
		{example(), list(1), 3, list(11), nil},
		{example(), list(1, 4), 6, list(14), nil},
		{example(), list(1, 2), 5, nil, nil},
		{example(), list(2), 5, list(12, 14), list(4)},
		{example(), list(5), 5, nil, nil},
		{example(), list(1, 5), 5, nil, nil},
		{either(), list(1), 2, list(7), nil},
		{rhombus, list(1), 5, list(9), list(3)},
		{rhombus, list(1, 2), 5, list(9), list(3)},
		{rhombus, list(1, 3), 5, list(9), nil},
		{rhombus, list(1), 3, nil, nil},
		{tied, list(1), 5, list(8, 9), list(3)},
		{twice, list(1), 3, list(1, 2), list(2)},
		{twice, list(4), 3, list(1, 2), list(2)},
	} {
		if l, e := recall.Hangs(x.l, x.from, x.to); !slices.Equal(l, x.hangs) || e != api.OK {
			t.Error("P9.6:", x, l, e)
		}
		if l, e := recall.Gates(x.l, x.from, x.to); !slices.Equal(l, x.gates) || e != api.OK {
			t.Error("P9.6:", x, l, e)
		}
	}
}

// TestEither: what all options together would lead to, but no case does, is not possible: nothing hangs on anything, and the cut is empty.
func TestEither(t *testing.T) {
	l := either()
	if _, e := recall.Hangs(l, list(1), 3); e != api.ErrNone {
		t.Error("P9.6:", e)
	}
	if _, e := recall.Gates(l, list(1), 3); e != api.ErrNone {
		t.Error("P9.6:", e)
	}
	if cut, e := recall.Cut(l, list(1), 3); len(cut) != 0 || e != api.OK {
		t.Error("P9.7:", cut, e)
	}
	if e := recall.CheckCut(l, list(1), 3, nil); e != api.OK {
		t.Error("P9.7:", e)
	}
	// A further record has one of the steps, so that both can be true.
	l.Claims = append(l.Claims, claim(6, hop(1, 2)))
	if got, e := recall.Hangs(l, list(1), 3); !slices.Equal(got, list(6, 7)) || e != api.OK {
		t.Error("P9.6:", got, e)
	}
	if got, e := recall.Gates(l, list(1), 3); !slices.Equal(got, list(2)) || e != api.OK {
		t.Error("P9.6:", got, e)
	}
	if cut, e := recall.Cut(l, list(1), 3); !slices.Equal(cut, list(7)) || e != api.OK {
		t.Error("P9.7:", cut, e)
	}
}

func TestCutByHand(t *testing.T) {
	for _, x := range []struct {
		l    api.Lineage
		from []int
		to   int
		want []int
	}{
		{example(), list(1), 5, list(13, 14)},
		{example(), list(1), 6, list(14)},
		{example(), list(2), 5, list(14)},
		{example(), list(1), 3, list(11)},
		{example(), list(1, 3), 5, list(13, 14)},
		{example(), list(5), 6, nil},
		{example(), list(2), 3, nil},
		{lineage(exampleNodes()), list(1), 6, nil},
		// It goes by IDs, not by the order of records.
		{lineage(exampleNodes(), claim(5, hop(1, 3)), claim(2, hop(3, 5))), list(1), 5, list(5)},
		{lineage(exampleNodes(), claim(2, hop(1, 3)), claim(5, hop(3, 5))), list(1), 5, list(5)},
		{lineage(exampleNodes(), claim(5, hop(3, 5)), claim(2, hop(1, 3))), list(1), 5, list(5)},
		{lineage(exampleNodes(), claim(9, hop(1, 3)), claim(8, hop(1, 4)), claim(3, hop(3, 5)), claim(4, hop(4, 5))), list(1), 5, list(8, 9)},
		{lineage(exampleNodes(), claim(9, hop(1, 3)), claim(2, hop(1, 4)), claim(3, hop(3, 5)), claim(4, hop(4, 5))), list(1), 5, list(4, 9)},
	} {
		if l, e := recall.Cut(x.l, x.from, x.to); !slices.Equal(l, x.want) || e != api.OK {
			t.Error("P9.7:", x, l, e)
		}
	}
	for _, x := range []struct {
		from  []int
		to    int
		links []int
		want  api.Errno
	}{
		{list(1), 5, list(13, 14), api.OK}, {list(1), 5, list(11, 12), api.OK}, {list(1), 5, list(11, 12, 13, 14), api.OK}, {list(1), 5, list(11, 14), api.OK}, {list(1), 5, list(12, 14), api.ErrProof},
		{list(1), 5, nil, api.ErrProof}, {list(1), 5, list(11), api.ErrProof}, {list(1), 5, list(13), api.ErrProof}, {list(1), 6, list(12), api.OK}, {list(1), 6, list(11, 13), api.ErrProof},
		{list(5), 6, nil, api.OK}, {list(5), 6, list(), api.OK}, {list(5), 5, list(11, 12, 13, 14), api.ErrProof}, {list(1, 5), 5, list(13, 14), api.ErrProof},
	} {
		if e := recall.CheckCut(example(), x.from, x.to, x.links); e != x.want {
			t.Error("P9.7:", x, e)
		}
	}
}

// TestHangs: records and nodes are those that are found by leaving out each one.
func TestHangs(t *testing.T) {
	hanging, gated, several := 0, 0, 0
	many(t, 41, 900, func(c chance, l api.Lineage, from []int) {
		for _, to := range idsOf(l) {
			hangs, e1 := recall.Hangs(l, from, to)
			gates, e2 := recall.Gates(l, from, to)
			if !isPossible(l, from, to) {
				if len(hangs) > 0 || len(gates) > 0 || e1 != api.ErrNone || e2 != api.ErrNone {
					t.Fatal("P9.6:", l, from, to, hangs, gates, e1, e2)
				}
				continue
			}
			if !slices.Equal(hangs, hangsOf(l, from, to)) || e1 != api.OK {
				t.Fatal("P9.6:", l, from, to, hangs, e1)
			}
			if !slices.Equal(gates, gatesOf(l, from, to)) || e2 != api.OK {
				t.Fatal("P9.6:", l, from, to, gates, e2)
			}
			checkHanging(t, l, from, to, hangs, gates)
			hanging += min(1, len(hangs))
			gated += min(1, len(gates))
			if !slices.Contains(from, to) && len(hangs) == 0 {
				several++
			}
		}
	})
	if hanging < 500 || gated < 80 || several < 300 {
		t.Error("too few lineages of a sort:", hanging, gated, several)
	}
}

// checkHanging holds records and gates against a trace, cuts, and all cases.
func checkHanging(t *testing.T, l api.Lineage, from []int, to int, hangs, gates []int) {
	t.Helper()
	x, _ := recall.Way(l, from, to)
	for _, link := range hangs {
		if e := recall.CheckCut(l, from, to, list(link)); e != api.OK || !slices.Contains(x.Claims, link) {
			t.Error("P9.15:", l, from, to, link, e)
		}
	}
	for _, got := range reached(l, from) {
		if slices.Contains(got, to) && !isPart(gates, got) {
			t.Error("P9.15:", l, from, to, gates, got)
		}
	}
}

// TestCut: the cut is the one that is found by going through the records; none of its records can be left out.
func TestCut(t *testing.T) {
	long := 0
	many(t, 42, 250, func(c chance, l api.Lineage, from []int) {
		for _, to := range idsOf(l) {
			cut, e := recall.Cut(l, from, to)
			if slices.Contains(from, to) {
				if len(cut) > 0 || e != api.ErrNone {
					t.Fatal("P9.7:", l, from, to, cut, e)
				}
				continue
			}
			if !slices.Equal(cut, cutOf(l, from, to)) || e != api.OK {
				t.Fatal("P9.7:", l, from, to, cut, e)
			}
			if e := recall.CheckCut(l, from, to, cut); e != api.OK {
				t.Fatal("P9.16:", l, from, to, cut, e)
			}
			for i := range cut {
				if e := recall.CheckCut(l, from, to, slices.Delete(slices.Clone(cut), i, i+1)); e != api.ErrProof {
					t.Fatal("P9.16:", l, from, to, cut, i, e)
				}
			}
			if len(cut) > 1 {
				long++
			}
		}
	})
	if long < 50 {
		t.Error("too few long cuts:", long)
	}
}

// TestForgedCuts: records are a cut just if without them the node is not possible.
func TestForgedCuts(t *testing.T) {
	many(t, 43, 300, func(c chance, l api.Lineage, from []int) {
		for _, to := range idsOf(l) {
			links := slices.DeleteFunc(linksOf(l), func(int) bool { return c.IntN(3) > 0 })
			want := api.OK
			if isPossible(less(l, links...), from, to) {
				want = api.ErrProof
			}
			if e := recall.CheckCut(l, from, to, links); e != want {
				t.Fatal("P9.7:", l, from, to, links, e)
			}
		}
	})
}

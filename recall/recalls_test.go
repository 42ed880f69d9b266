package recall_test

import (
	"slices"
	"testing"

	"calx/api"
	"calx/recall"
)

func TestRecallByHand(t *testing.T) {
	dear := lineage(nodes(node(1, 0, 5), node(2, 9, api.MaxCost9), node(3, 9, api.MaxCost9), node(4, 8, 99)), claim(1, hop(1, 2)), claim(2, hop(1, 3)), claim(3, hop(1, 4)))
	for _, x := range []struct {
		l    api.Lineage
		from []int
		sure bool
		want []int
		cost int
	}{
		{example(), list(1), true, list(5), 10},
		{example(), list(1), false, list(5, 6), 17},
		{example(), list(2), true, nil, 0},
		{example(), list(2), false, list(5, 6), 17},
		{example(), list(3), false, list(5), 10},
		// A wall is recalled if it is one of those that it is asked of.
		{example(), list(2, 6), true, list(6), 7},
		{example(), list(6), false, list(6), 7},
		{either(), list(1), false, nil, 0},
		// Walls alone cost something, and their costs are added up beyond what one may cost.
		{dear, list(1), true, list(2, 3), 2 * api.MaxCost9},
		{dear, list(1), false, list(2, 3), 2 * api.MaxCost9},
		{dear, list(4), false, nil, 0},
	} {
		if l, n, e := recall.Recall(x.l, x.from, x.sure); !slices.Equal(l, x.want) || n != x.cost || e != api.OK {
			t.Error("P9.9:", x, l, n, e)
		}
	}
}

func TestAskByHand(t *testing.T) {
	n := nodes(node(1, 0, 0), node(2, 5, 0), node(3, 9, 10), node(4, 9, 3), node(5, 9, 1))
	swapped := example()
	slices.Reverse(swapped.Claims)
	for _, x := range []struct {
		name     string
		l        api.Lineage
		from     []int
		id, left int
	}{
		{"the example", example(), list(1), 12, 7},
		{"the example from behind", swapped, list(1), 12, 7},
		{"the other charge", example(), list(2), 14, 10},
		{"nothing in doubt", example(), list(5), 12, 0},
		{"one record", lineage(n, claim(7, hop(1, 3), hop(1, 4))), list(1), 7, 0},
		{"two records, one of them dear", lineage(n, claim(7, hop(1, 4), hop(1, 5)), claim(8, hop(1, 3), hop(1, 5))), list(1), 8, 4},
		{"the same, with other IDs", lineage(n, claim(9, hop(1, 4), hop(1, 5)), claim(8, hop(1, 3), hop(1, 5))), list(1), 8, 4},
		{"two alike: the least ID", lineage(n, claim(9, hop(1, 4), hop(1, 5)), claim(8, hop(1, 4), hop(1, 5))), list(1), 8, 3},
		{"the only one with options has a great ID", lineage(n, claim(1, hop(1, 2)), claim(99, hop(2, 3), hop(2, 4))), list(1), 99, 0},
		{"the same wall in each case", lineage(n, claim(1, hop(1, 2), hop(1, 3)), claim(2, hop(2, 3))), list(1), 1, 0},
		{"a record that tells nothing", lineage(n, claim(1, hop(2, 4), hop(2, 5)), claim(2, hop(1, 3), hop(1, 4), hop(1, 5))), list(1), 2, 0},
		{"doubts that are not about walls", lineage(nodes(node(1, 0, 0), node(2, 5, 40), node(3, 6, 50)), claim(4, hop(1, 2), hop(1, 3)), claim(3, hop(1, 2), hop(2, 3))), list(1), 3, 0},
	} {
		if id, left, e := recall.Ask(x.l, x.from); id != x.id || left != x.left || e != api.OK {
			t.Error("P9.10:", x.name, id, left, e)
		}
	}
}

// TestRecall: the walls are those that are counted out; the sure recall is a part of the possible one.
func TestRecall(t *testing.T) {
	apart := 0
	many(t, 51, 300, func(c chance, l api.Lineage, from []int) {
		sure, least, e1 := recall.Recall(l, from, true)
		possible, most, e2 := recall.Recall(l, from, false)
		if max(e1, e2) != api.OK {
			t.Fatal("P9.9:", e1, e2)
		}
		if walls, cost := wallsOf(l, sureOf(l, from)); !slices.Equal(sure, walls) || least != cost {
			t.Fatal("P9.9:", l, from, sure, least)
		}
		if walls, cost := wallsOf(l, possibleOf(l, from)); !slices.Equal(possible, walls) || most != cost {
			t.Fatal("P9.9:", l, from, possible, most)
		}
		if !isPart(sure, possible) || least > most {
			t.Fatal("P9.18:", l, from, sure, least, possible, most)
		}
		if least < most {
			apart++
		}
	})
	if apart < 50 {
		t.Error("too few recalls in doubt:", apart)
	}
}

// TestAsk: the record is that which leaves the least, and no more is left after it is told.
func TestAsk(t *testing.T) {
	asked, left := 0, 0
	many(t, 52, 400, func(c chance, l api.Lineage, from []int) {
		id, n, e := recall.Ask(l, from)
		want, least, found := askOf(l, from)
		if id != want || n != least || found != (e == api.OK) || !found && e != api.ErrNone {
			t.Fatal("P9.10:", l, from, id, n, e)
		}
		if !found {
			return
		}
		i := slices.IndexFunc(l.Claims, func(x api.Claim) bool { return x.ID == id })
		for at := range l.Claims[i].Options {
			told, e := recall.Told(l, id, at)
			_, sure, e1 := recall.Recall(told, from, true)
			_, possible, e2 := recall.Recall(told, from, false)
			if possible-sure > n || max(e, e1, e2) != api.OK {
				t.Fatal("P9.18:", l, from, id, at, sure, possible, n)
			}
		}
		asked++
		left += min(1, n)
	})
	if asked < 200 || left < 30 {
		t.Error("too few records asked for:", asked, left)
	}
}

package tally_test

import (
	"slices"
	"testing"

	"calx/api"
	"calx/tally"
)

// checkPairs checks what is told of the pairs of cheapest ways.
func checkPairs(t *testing.T, b api.Bundle, sure, possible []api.Pair, stocks, foils []int) {
	t.Helper()
	if l, e := tally.Sure(b); !slices.Equal(l, sure) || e != api.OK {
		t.Error("P7.5:", l, e, sure)
	}
	if l, e := tally.Possible(b); !slices.Equal(l, possible) || e != api.OK {
		t.Error("P7.5:", l, e, possible)
	}
	if l, m, e := tally.Lost(b); !slices.Equal(l, stocks) || !slices.Equal(m, foils) || e != api.OK {
		t.Error("P7.5:", l, m, e, stocks, foils)
	}
}

func TestPairs(t *testing.T) {
	b := example()
	checkPairs(t, b, pairs(1, 11, 2, 12), pairs(1, 11, 2, 12, 3, 0, 3, 13), nil, nil)
	checkPairs(t, of(nil, nil), nil, nil, nil, nil)
	checkPairs(t, of(b.Stocks, nil), pairs(1, 0, 2, 0, 3, 0), pairs(1, 0, 2, 0, 3, 0), list(1, 2, 3), nil)
	checkPairs(t, of(nil, b.Foils), nil, nil, nil, list(11, 12, 13))
	checkPairs(t, changed(func(b *api.Bundle) { b.LostFoil = 3 }), pairs(1, 11, 2, 12, 3, 0), pairs(1, 11, 2, 12, 3, 0), list(3), list(13))
	checkPairs(t, changed(func(b *api.Bundle) { b.LostFoil = 5 }), pairs(1, 11, 2, 12, 3, 13), pairs(1, 11, 2, 12, 3, 13), nil, nil)
	// Pairs stand in the order of the bundle, not in that of the IDs.
	free := changed(func(b *api.Bundle) {
		b.Wrong, b.Worn = 0, 0
		b.Stocks = sticks(stick(9, 0, 1, 1, 1), stick(3, 0, 2, 2, 2))
		b.Foils = sticks(stick(8, 0, 3, 3, 3), stick(5, 0, 4, 4, 4), stick(7, 0, 5, 5, 5))
	})
	checkPairs(t, free, nil, pairs(9, 8, 9, 5, 9, 7, 3, 8, 3, 5, 3, 7), nil, nil)
	dear := changed(func(b *api.Bundle) {
		b.Wrong, b.LostStock, b.LostFoil = 1000, 0, 0
		b.Stocks, b.Foils = free.Stocks, free.Foils
	})
	checkPairs(t, dear, pairs(9, 0, 3, 0), pairs(9, 0, 3, 0), list(9, 3), list(8, 5, 7))
	// All costs nothing: any way is a cheapest one.
	nothing := api.Bundle{Worths: list(1), Stocks: sticks(stick(2, 0, 1), stick(1, 0, 2)), Foils: sticks(stick(4, 0, 3), stick(3, 0, 4))}
	checkPairs(t, nothing, nil, pairs(2, 0, 2, 4, 2, 3, 1, 0, 1, 4, 1, 3), nil, nil)
}

func TestManyPairs(t *testing.T) {
	manyBundles(t, 77, 800, func(t *testing.T, c chance, b api.Bundle, x courses) {
		var stocks, foils []int
		for _, s := range b.Stocks {
			if x.inAll(api.Pair{Stock: s.ID}) {
				stocks = append(stocks, s.ID)
			}
		}
		for _, f := range b.Foils {
			if x.inAll(api.Pair{Foil: f.ID}) {
				foils = append(foils, f.ID)
			}
		}
		checkPairs(t, b, x.pairsThat(x.inAll), x.pairsThat(x.inSome), stocks, foils)
	})
}

func TestMadeAndMissed(t *testing.T) {
	b := example()
	for _, x := range []struct{ stock, foil, made, missed int }{
		{0, 11, 9, 0}, {0, 12, 8, 0}, {0, 13, 0, 0},
		{1, 0, 9, 0}, {1, 11, 0, 6}, {1, 12, 6, 0}, {1, 13, 9, 0},
		{2, 0, 6, 0}, {2, 11, 6, 0}, {2, 12, 0, 6}, {2, 13, 6, 0},
		{3, 0, 0, 0}, {3, 11, 9, 0}, {3, 12, 6, 0}, {3, 13, 0, 0},
	} {
		made, e := tally.Made(b, x.stock, x.foil)
		missed, e2 := tally.Missed(b, x.stock, x.foil)
		if made != x.made || missed != x.missed || e != api.OK || e2 != api.OK {
			t.Error("P7.6:", x, made, missed, e, e2)
		}
	}
	// There is no other way if there is nothing to have, or nobody to have it.
	for _, x := range []struct {
		b           api.Bundle
		stock, foil int
	}{{of(b.Stocks, nil), 1, 0}, {of(b.Stocks, nil), 3, 0}, {of(nil, b.Foils), 0, 11}, {of(nil, b.Foils), 0, 13}, {of(b.Stocks[:1], nil), 1, 0}} {
		if missed, e := tally.Missed(x.b, x.stock, x.foil); missed != 0 || e != api.ErrNone {
			t.Error("P7.6:", x, missed, e)
		}
		if made, e := tally.Made(x.b, x.stock, x.foil); made != 0 || e != api.OK {
			t.Error("P7.6:", x, made, e)
		}
	}
	// Here there is, however dear it is.
	far := api.Bundle{Wrong: 1000, Worths: slices.Repeat(list(1), 12), Stocks: sticks(stick(1, 0, slices.Repeat(list(1), 12)...)), Foils: sticks(stick(2, 0, slices.Repeat(list(2), 12)...))}
	for _, p := range pairs(1, 0, 0, 2) {
		if missed, e := tally.Missed(far, p.Stock, p.Foil); missed != 12000 || e != api.OK {
			t.Error("P7.6:", p, missed, e)
		}
	}
	if made, e := tally.Made(far, 1, 2); made != 12000 || e != api.OK {
		t.Error("P7.6:", made, e)
	}
}

// TestManyMade: P7.6, and what P7.13 tells of pairs that are possible, and sure.
func TestManyMade(t *testing.T) {
	none := 0
	manyBundles(t, 78, 700, func(t *testing.T, c chance, b api.Bundle, x courses) {
		sure, _ := tally.Sure(b)
		possible, _ := tally.Possible(b)
		for _, p := range allPairs(b) {
			made, e := tally.Made(b, p.Stock, p.Foil)
			if made != x.made[p]-x.least || e != api.OK {
				t.Error("P7.6:", p, made, e)
			}
			missed, e := tally.Missed(b, p.Stock, p.Foil)
			if cost, ok := x.missed[p]; ok && (missed != cost-x.least || e != api.OK) || !ok && (missed != 0 || e != api.ErrNone) {
				t.Error("P7.6:", p, missed, e)
			}
			if e == api.ErrNone {
				none++
			}
			if p.Stock != 0 && (slices.Contains(possible, p) != (made == 0) || slices.Contains(sure, p) != (missed > 0 || e == api.ErrNone)) {
				t.Error("P7.13:", p, made, missed, e, sure, possible)
			}
		}
		for _, s := range b.Stocks {
			if !slices.ContainsFunc(possible, func(p api.Pair) bool { return p.Stock == s.ID }) {
				t.Error("P7.13:", s, possible)
			}
		}
		for _, p := range sure {
			for _, q := range possible {
				if p != q && (p.Stock == q.Stock || p.Foil != 0 && p.Foil == q.Foil) {
					t.Error("P7.13:", p, q)
				}
			}
		}
	})
	if none < 100 {
		t.Error("too few pairs without another way:", none)
	}
}

// leastBut is the least cost of all ways but one, or false if there is none.
func leastBut(b api.Bundle, given []int) (int, bool) {
	least, found := 0, false
	for other := range ways(b) {
		if cost := wayCost(b, other); !slices.Equal(other, given) && (!found || cost < least) {
			least, found = cost, true
		}
	}
	return least, found
}

// checkOther checks the cheapest other way of one.
func checkOther(t *testing.T, b api.Bundle, given []int) (int, bool) {
	t.Helper()
	other, cost, e := tally.Other(b, given)
	want, ok := leastBut(b, given)
	if !ok {
		if len(other) != 0 || cost != 0 || e != api.ErrNone {
			t.Error("P7.7:", given, other, cost, e)
		}
		return 0, false
	}
	if e != api.OK || cost != want || !isWay(b, other) || slices.Equal(other, given) || wayCost(b, other) != cost {
		t.Error("P7.7:", given, other, cost, e, want)
	}
	return cost, true
}

func TestOther(t *testing.T) {
	b := example()
	if other, cost, e := tally.Other(b, list(11, 12, 0)); !slices.Equal(other, list(11, 12, 13)) || cost != 10 || e != api.OK {
		t.Error("P7.7:", other, cost, e)
	}
	if other, cost, e := tally.Other(b, list(11, 12, 13)); !slices.Equal(other, list(11, 12, 0)) || cost != 10 || e != api.OK {
		t.Error("P7.7:", other, cost, e)
	}
	for _, given := range [][]int{list(0, 0, 0), list(13, 12, 11), list(0, 0, 11)} {
		checkOther(t, b, given)
	}
	for _, x := range []api.Bundle{of(nil, nil), of(b.Stocks, nil), of(b.Stocks[:1], nil), of(nil, b.Foils), of(nil, b.Foils[:1])} {
		if other, cost, e := tally.Other(x, make([]int, len(x.Stocks))); len(other) != 0 || cost != 0 || e != api.ErrNone {
			t.Error("P7.7:", other, cost, e)
		}
	}
	dearer := 0
	manyBundles(t, 79, 400, func(t *testing.T, c chance, b api.Bundle, x courses) {
		sure, _ := tally.Sure(b)
		for given := range ways(b) {
			if wayCost(b, given) > x.least && c.IntN(40) > 0 {
				continue
			}
			cost, ok := checkOther(t, b, given)
			if !ok || wayCost(b, given) > x.least {
				continue
			}
			if cost < x.least {
				t.Error("P7.14:", given, cost)
			}
			if cost > x.least {
				dearer++
				for _, p := range pairsIn(b, given) {
					if p.Stock != 0 && !slices.Contains(sure, p) {
						t.Error("P7.14:", given, cost, p)
					}
				}
			}
		}
	})
	if dearer < 50 {
		t.Error("too few cheapest ways without an equal:", dearer)
	}
}

// TestDearerLost: with a higher cost of a lost half, no way is cheaper.
func TestDearerLost(t *testing.T) {
	higher := 0
	manyBundles(t, 80, 400, func(t *testing.T, c chance, b api.Bundle, x courses) {
		more := cloneBundle(b)
		more.LostStock += c.from(0, 3)
		more.LostFoil += c.from(0, 3)
		m, e := tally.Best(more)
		if m.Cost < x.least || e != api.OK {
			t.Error("P7.14:", m, e)
		}
		if m.Cost > x.least {
			higher++
		}
		for given := range ways(b) {
			before, e := tally.Total(b, given)
			behind, e2 := tally.Total(more, given)
			if behind < before || e != api.OK || e2 != api.OK {
				t.Error("P7.14:", given, before, behind, e, e2)
			}
		}
	})
	if higher < 50 {
		t.Error("too few dearer bundles:", higher)
	}
}

package tally_test

import (
	"math"
	"slices"
	"testing"

	"calx/api"
	"calx/tally"
)

func cloneMatch(m api.Match) api.Match {
	return api.Match{Given: slices.Clone(m.Given), Cost: m.Cost, Stocks: slices.Clone(m.Stocks), Foils: slices.Clone(m.Foils)}
}

func equalMatches(a, b api.Match) bool {
	return slices.Equal(a.Given, b.Given) && a.Cost == b.Cost && slices.Equal(a.Stocks, b.Stocks) && slices.Equal(a.Foils, b.Foils)
}

// checkBest checks a way that Best returns: it costs so much, and prices prove it.
func checkBest(t *testing.T, b api.Bundle, cost int) api.Match {
	t.Helper()
	m, e := tally.Best(b)
	if e != api.OK || m.Cost != cost || !proves(b, m) {
		t.Error("P7.4:", m, e, cost)
	}
	if total, e := tally.Total(b, m.Given); total != m.Cost || e != api.OK {
		t.Error("P7.12:", m, total, e)
	}
	if e := tally.CheckBest(b, m); e != api.OK {
		t.Error("P7.12:", m, e)
	}
	return m
}

func TestBest(t *testing.T) {
	b := example()
	m := checkBest(t, b, 10)
	if !slices.Equal(m.Given, list(11, 12, 13)) && !slices.Equal(m.Given, list(11, 12, 0)) {
		t.Error("P7.4:", m)
	}
	for _, x := range []struct {
		b    api.Bundle
		cost int
	}{
		{of(nil, nil), 0}, {of(b.Stocks, nil), 15}, {of(nil, b.Foils), 12}, {of(b.Stocks[:1], b.Foils[1:2]), 4}, {of(b.Stocks[2:], b.Foils[2:]), 9}, {of(b.Stocks[:1], b.Foils[:2]), 4}, {of(b.Stocks[:2], b.Foils[:1]), 5},
		{changed(func(b *api.Bundle) { b.Wrong, b.Worn = 0, 0 }), 0}, {changed(func(b *api.Bundle) { b.LostStock, b.LostFoil = 0, 0 }), 0}, {changed(func(b *api.Bundle) { b.LostStock = 0 }), 5}, {changed(func(b *api.Bundle) { b.LostFoil = 0 }), 6},
		{changed(func(b *api.Bundle) { b.LostStock, b.LostFoil = 1000, 1000 }), 10}, {of(b.Stocks, b.Foils[:2]), 6},
	} {
		checkBest(t, x.b, x.cost)
	}
	manyBundles(t, 74, 1500, func(t *testing.T, c chance, b api.Bundle, x courses) {
		m := checkBest(t, b, x.least)
		if !slices.ContainsFunc(x.cheapest, func(given []int) bool { return slices.Equal(given, m.Given) }) {
			t.Error("P7.4:", m)
		}
	})
}

// TestCheckBest: a match that is changed is accepted just if it still proves.
func TestCheckBest(t *testing.T) {
	b := example()
	for _, m := range []api.Match{
		{Given: list(11, 12, 0), Cost: 10, Stocks: list(0, 1, 5), Foils: list(0, 0, 4)}, {Given: list(11, 12, 13), Cost: 10, Stocks: list(0, 1, 5), Foils: list(0, 0, 4)},
		{Given: list(11, 12, 0), Cost: 10, Stocks: list(0, 1, 5), Foils: list(0, 0, 4)}, {Given: list(11, 12, 0), Cost: 10, Stocks: list(3, 3, 5), Foils: list(-3, -2, 4)},
	} {
		if e := tally.CheckBest(b, m); e != api.OK || !proves(b, m) {
			t.Error("P7.4:", m, e)
		}
	}
	for i, m := range []api.Match{
		{}, {Given: list(11, 12, 0), Cost: 10}, {Given: list(11, 12), Cost: 10, Stocks: list(0, 1, 5), Foils: list(0, 0, 4)}, {Given: list(11, 12, 0, 0), Cost: 10, Stocks: list(0, 1, 5), Foils: list(0, 0, 4)},
		{Given: list(11, 12, 0), Cost: 10, Stocks: list(0, 1, 5, 0), Foils: list(0, 0, 4)}, {Given: list(11, 12, 0), Cost: 10, Stocks: list(0, 1, 5), Foils: list(0, 0, 4, 0)}, {Given: list(11, 12, 0), Cost: 10, Stocks: list(1, 5), Foils: list(0, 0, 4)}, {Given: list(11, 12, 0), Cost: 10, Stocks: list(0, 1, 5), Foils: list(0, 4)},
		{Given: list(11, 12, 0), Cost: 9, Stocks: list(0, 1, 5), Foils: list(0, 0, 4)}, {Given: list(11, 12, 0), Cost: 11, Stocks: list(0, 1, 5), Foils: list(0, 0, 4)}, {Given: list(11, 12, 0), Cost: 9, Stocks: list(0, 1, 4), Foils: list(0, 0, 4)}, {Given: list(11, 12, 0), Cost: 10, Stocks: list(0, 1, 4), Foils: list(0, 0, 4)},
		{Given: list(11, 12, 0), Cost: 10, Stocks: list(0, 0, 6), Foils: list(0, 0, 4)}, {Given: list(11, 12, 0), Cost: 10, Stocks: list(0, 0, 5), Foils: list(0, 0, 5)}, {Given: list(11, 12, 0), Cost: 10, Stocks: list(1, 0, 5), Foils: list(0, 0, 4)},
		{Given: list(11, 11, 0), Cost: 12, Stocks: list(0, 3, 5), Foils: list(0, 0, 4)}, {Given: list(11, 12, 14), Cost: 10, Stocks: list(0, 1, 5), Foils: list(0, 0, 4)}, {Given: list(12, 11, 0), Cost: 10, Stocks: list(0, 1, 5), Foils: list(0, 0, 4)}, {Given: list(12, 11, 0), Cost: 16, Stocks: list(0, 1, 5), Foils: list(0, 0, 4)}, {Given: list(0, 0, 0), Cost: 27, Stocks: list(5, 5, 5), Foils: list(4, 4, 4)},
		{Given: list(1, 2, 3), Cost: 10, Stocks: list(0, 1, 5), Foils: list(0, 0, 4)}, {Given: list(11, 12, 0), Cost: 10, Stocks: list(math.MinInt, math.MinInt, 5), Foils: list(1, 0, 4)}, {Given: list(11, 12, 0), Cost: 10, Stocks: list(math.MaxInt, 1, 5), Foils: list(math.MaxInt, 2, 4)},
		{Given: list(11, 12, -1), Cost: 10, Stocks: list(0, 1, 5), Foils: list(0, 0, 4)},
	} {
		if e := tally.CheckBest(b, m); e != api.ErrProof || proves(b, m) {
			t.Error("P7.4:", i, m, e)
		}
	}
	accepted, refused := 0, 0
	manyBundles(t, 75, 500, func(t *testing.T, c chance, b api.Bundle, x courses) {
		best, _ := tally.Best(b)
		for range 40 {
			m := c.changed(b, best)
			e := tally.CheckBest(b, m)
			if proves(b, m) != (e == api.OK) || e != api.OK && e != api.ErrProof {
				t.Error("P7.4:", m, e)
			}
			if e == api.OK {
				accepted++
			} else {
				refused++
			}
			if total, _ := tally.Total(b, m.Given); e == api.OK && (total != m.Cost || m.Cost != x.least) {
				t.Error("P7.12:", m, total)
			}
		}
	})
	if min(accepted, refused) < 1000 {
		t.Error("too few matches of a sort:", accepted, refused)
	}
}

// changed is a match in which some numbers are others, such that it may still prove.
func (c chance) changed(b api.Bundle, m api.Match) api.Match {
	m = cloneMatch(m)
	for range c.from(1, 3) {
		switch c.IntN(5) {
		case 0:
			if n := len(m.Given); n > 0 {
				i, k := c.IntN(n), c.IntN(n)
				m.Given[i], m.Given[k] = m.Given[k], m.Given[i]
			}
		case 1:
			if n := len(b.Foils); n > 0 && len(m.Given) > 0 {
				m.Given[c.IntN(len(m.Given))] = []int{0, b.Foils[c.IntN(n)].ID}[c.IntN(2)]
			}
		case 2:
			m.Cost += c.from(-1, 1)
		case 3:
			if len(m.Stocks) > 0 && len(m.Foils) > 0 {
				by := c.from(-2, 2)
				m.Stocks[c.IntN(len(m.Stocks))] += by
				m.Foils[c.IntN(len(m.Foils))] -= by
			}
		case 4:
			// All stocks dearer, and all foils cheaper, by the same: both can be so if they are as many.
			by := c.from(-2, 2)
			for i := range m.Stocks {
				m.Stocks[i] += by
			}
			for i := range m.Foils {
				m.Foils[i] -= by
			}
		}
	}
	return m
}

// TestPriceBounds: prices beyond 2^20, and those below -2^20, prove nothing.
func TestPriceBounds(t *testing.T) {
	// A price of a stock is at most 1000, and all prices together are at least 0: only costs far above those of api reach so far. So a bound is never the only fault; but prices whose sum would wrap around must be refused, too.
	b := of(example().Stocks[:2], example().Foils[:2])
	for _, by := range list(1<<20, 1<<20+1, 1<<40, 1<<62, math.MaxInt) {
		for _, m := range []api.Match{
			{Given: list(11, 12), Cost: 1, Stocks: list(by, 1-by), Foils: list(0, 0)}, {Given: list(11, 12), Cost: 1, Stocks: list(0, 1), Foils: list(-by, by)}, {Given: list(11, 12), Cost: 1, Stocks: list(-by, -by), Foils: list(-by, -by)}, {Given: list(11, 12), Cost: 1, Stocks: list(1, 0), Foils: list(-by, by)},
			{Given: list(11, 12), Cost: 0, Stocks: list(-by, -by), Foils: list(-by-1, -by-1)}, {Given: list(11, 12), Cost: 1, Stocks: list(math.MinInt, math.MinInt), Foils: list(0, 1)},
		} {
			if e := tally.CheckBest(b, m); e != api.ErrProof {
				t.Error("P7.4:", m, e)
			}
		}
	}
}

// TestPricesProve: if CheckBest accepts any way, none costs less (T7).
func TestPricesProve(t *testing.T) {
	manyBundles(t, 76, 300, func(t *testing.T, c chance, b api.Bundle, x courses) {
		best, _ := tally.Best(b)
		for given := range ways(b) {
			cost := wayCost(b, given)
			m := api.Match{Given: given, Cost: cost, Stocks: best.Stocks, Foils: best.Foils}
			if e := tally.CheckBest(b, m); (e == api.OK) != (cost == x.least) {
				t.Error("P7.12, T7:", m, e)
			}
			m.Cost = x.least
			if e := tally.CheckBest(b, m); (e == api.OK) != (cost == x.least) {
				t.Error("P7.12, T7:", m, e)
			}
		}
	})
}

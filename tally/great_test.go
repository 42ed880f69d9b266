package tally_test

import (
	"slices"
	"testing"

	"calx/api"
	"calx/tally"
)

// checkGreatPairs compares all that is told of pairs with what all ways cost, by sets of foils.
func checkGreatPairs(t *testing.T, b api.Bundle, x charts) {
	t.Helper()
	made, least := x.allMade(), x.least()
	var possible []api.Pair
	for i, row := range made {
		for k, cost := range row {
			p := idsOf(b, i-1, k-1)
			if p == (api.Pair{}) {
				continue
			}
			if n, e := tally.Made(b, p.Stock, p.Foil); n != cost-least || e != api.OK {
				t.Error("P7.6:", p, n, e, cost-least)
			}
			if n, e := tally.Missed(b, p.Stock, p.Foil); n != missedOf(made, i, k)-least || e != api.OK {
				t.Error("P7.6:", p, n, e, missedOf(made, i, k)-least)
			}
			if i > 0 && cost == least {
				possible = append(possible, p)
			}
		}
	}
	if l, e := tally.Possible(b); !slices.Equal(l, possible) || e != api.OK {
		t.Error("P7.5:", l, e, possible)
	}
	var sure []api.Pair
	var stocks, foils []int
	for i := range b.Stocks {
		for k := range made[0] {
			if p := idsOf(b, i, k-1); missedOf(made, i+1, k) > least {
				sure = append(sure, p)
			}
		}
		if missedOf(made, i+1, 0) > least {
			stocks = append(stocks, b.Stocks[i].ID)
		}
	}
	for k := range b.Foils {
		if missedOf(made, 0, k+1) > least {
			foils = append(foils, b.Foils[k].ID)
		}
	}
	checkPairs(t, b, sure, possible, stocks, foils)
}

// TestGreat: the greatest bundles are answered as all their ways tell.
func TestGreat(t *testing.T) {
	for seed := range uint64(4) {
		c := chanceOf(93 + seed)
		b := c.great()
		switch seed {
		case 2: // Few notches, and few differences: many ways cost the same.
			b = c.bundle(kind{api.MaxTallies, api.MaxTallies, 2, 2, 2, api.MaxNotchIn, 2})
		case 3:
			b.LostStock, b.LostFoil, b.Wrong, b.Worn = api.MaxFee, api.MaxFee, 30, 20
		}
		x := chartsOfCosts(b)
		checkBest(t, b, x.least())
		checkGreatPairs(t, b, x)
		m, _ := tally.Best(b)
		other, cost, e := tally.Other(b, m.Given)
		want := never
		made := x.allMade()
		for i, id := range m.Given {
			k := 1 + slices.IndexFunc(b.Foils, func(y api.Tally) bool { return y.ID == id })
			want = min(want, missedOf(made, i+1, k))
		}
		if cost != want || e != api.OK || !isWay(b, other) || wayCost(b, other) != cost || slices.Equal(other, m.Given) {
			t.Error("P7.7:", other, cost, e, want)
		}
	}
}

// TestGreatOwed: what is owed in the greatest bundles is as all their cheapest ways tell.
func TestGreatOwed(t *testing.T) {
	wide := 0
	for seed := range uint64(4) {
		c := chanceOf(97 + seed)
		b := c.bundle(kind{api.MaxTallies, api.MaxTallies, c.from(1, 3), 2, 3, api.MaxNotchIn, 2})
		if seed == 3 {
			b.LostStock, b.LostFoil = api.MaxFee, api.MaxFee
		}
		for who := range 3 {
			const far = 1 << 30
			end := func(sign int) int {
				x := chartsOf(b, func(stock, foil int) int {
					cost := far * pairCost(b, idsOf(b, stock, foil))
					if stock >= 0 && foil >= 0 && b.Foils[foil].Who == who {
						cost += sign * least(b, b.Stocks[stock])
					}
					return cost
				})
				// What is owed is far less than half of far: so the nearest multiple of that is the cost.
				cost := (x.least() + far/2) / far * far
				return sign * (x.least() - cost)
			}
			lo, hi := end(1), end(-1)
			checkOwed(t, b, who, lo, hi)
			if lo < hi {
				wide++
			}
		}
	}
	if wide < 3 {
		t.Error("too few spans of what is owed:", wide)
	}
}

// TestGreatBest: many of the greatest bundles, and such as have no stocks, or no foils, are proved by their prices.
func TestGreatBest(t *testing.T) {
	for seed := range uint64(300) {
		c := chanceOf(101 + seed)
		b := c.great()
		b.Stocks, b.Foils = b.Stocks[:c.from(0, 16)], b.Foils[:c.from(0, 16)]
		if seed%3 == 0 {
			b = c.great()
		}
		m, e := tally.Best(b)
		if e != api.OK || !proves(b, m) {
			t.Error("P7.4:", b, m, e)
		}
		if e := tally.CheckBest(b, m); e != api.OK {
			t.Error("P7.12:", b, m, e)
		}
	}
}

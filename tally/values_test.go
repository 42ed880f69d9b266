package tally_test

import (
	"math"
	"slices"
	"testing"

	"calx/api"
	"calx/tally"
)

func TestValue(t *testing.T) {
	b := example()
	b.Worths = list(0, 7, 1000)
	b.Stocks[0].Notches, b.Stocks[1].Notches, b.Stocks[2].Notches = list(9, 9, 9), list(worn, worn, worn), list(worn, 0, 3)
	for _, x := range []struct {
		id     int
		lo, hi int
	}{{1, 9063, 9063}, {2, 0, 9063}, {3, 3000, 3000}, {11, 4021, 4021}, {12, 9000, 9063}, {13, 8056, 8056}} {
		if s, e := tally.Value(b, x.id); s != (api.Span{Lo: x.lo, Hi: x.hi}) || e != api.OK {
			t.Error("P7.3:", x.id, s, e)
		}
	}
	if s, e := tally.Value(example(), 12); s != (api.Span{Lo: 209, Hi: 299}) || e != api.OK {
		t.Error("P7.3:", s, e)
	}
	c := chanceOf(71)
	for range 300 {
		b := c.small()
		for _, x := range slices.Concat(b.Stocks, b.Foils) {
			// A worn notch can be any number: the ends are those of all of them.
			want := api.Span{Lo: least(b, x), Hi: least(b, x)}
			for i, n := range x.Notches {
				if n == worn {
					want.Hi += 9 * b.Worths[i]
				}
			}
			if s, e := tally.Value(b, x.ID); s != want || e != api.OK {
				t.Error("P7.3:", b, x, s, e)
			}
		}
	}
}

func TestCost(t *testing.T) {
	b := example()
	for _, x := range []struct{ stock, foil, want int }{{1, 11, 0}, {1, 12, 4}, {2, 12, 1}, {3, 13, 9}, {2, 11, 3}, {3, 12, 7}} {
		if cost, e := tally.Cost(b, x.stock, x.foil); cost != x.want || e != api.OK {
			t.Error("P7.3:", x, cost, e)
		}
	}
	for _, x := range []struct {
		a, b []int
		want int
	}{
		{list(worn, 1, 2), list(worn, 1, 2), 1}, {list(worn, worn, worn), list(worn, worn, worn), 3}, {list(worn, 1, 2), list(0, 1, 2), 1}, {list(0, 1, 2), list(9, worn, 2), 4},
		{list(0, 0, 0), list(0, 0, 0), 0}, {list(0, 0, 0), list(0, 0, 9), 3}, {list(0, 0, 1), list(1, 0, 0), 6}, {list(9, worn, 9), list(worn, 9, 8), 5},
	} {
		b := of(sticks(stick(5, 0, x.a...)), sticks(stick(3, 0, x.b...)))
		if cost, e := tally.Cost(b, 5, 3); cost != x.want || e != api.OK {
			t.Error("P7.3:", x, cost, e)
		}
	}
	most := api.Bundle{Wrong: api.MaxFee, Worths: slices.Repeat(list(1), api.MaxNotches), Stocks: sticks(stick(1, 0, slices.Repeat(list(1), api.MaxNotches)...)), Foils: sticks(stick(2, 0, slices.Repeat(list(2), api.MaxNotches)...))}
	if cost, e := tally.Cost(most, 1, 2); cost != api.MaxNotches*api.MaxFee || e != api.OK {
		t.Error("P7.3:", cost, e)
	}
}

func TestTotal(t *testing.T) {
	b := example()
	for _, x := range []struct {
		given []int
		want  int
	}{{list(11, 12, 13), 10}, {list(11, 12, 0), 10}, {list(0, 0, 0), 27}, {list(12, 11, 0), 16}, {list(13, 12, 11), 9 + 1 + 9}, {list(0, 0, 13), 27}, {list(0, 12, 0), 19}} {
		if cost, e := tally.Total(b, x.given); cost != x.want || e != api.OK {
			t.Error("P7.3:", x, cost, e)
		}
	}
	for _, x := range []struct {
		b    api.Bundle
		want int
	}{{of(nil, nil), 0}, {of(nil, b.Foils), 12}, {of(nil, b.Foils[:1]), 4}} {
		if cost, e := tally.Total(x.b, nil); cost != x.want || e != api.OK {
			t.Error("P7.3:", x, cost, e)
		}
	}
	if cost, e := tally.Total(of(b.Stocks, nil), list(0, 0, 0)); cost != 15 || e != api.OK {
		t.Error("P7.3:", cost, e)
	}
	c := chanceOf(72)
	for range 120 {
		b := c.small()
		for given := range ways(b) {
			if cost, e := tally.Total(b, given); cost != wayCost(b, given) || e != api.OK {
				t.Fatal("P7.3:", b, given, cost, e)
			}
		}
		for _, p := range allPairs(b) {
			if p.Stock == 0 || p.Foil == 0 {
				continue
			}
			if cost, e := tally.Cost(b, p.Stock, p.Foil); cost != pairCost(b, p) || e != api.OK {
				t.Fatal("P7.3:", b, p, cost, e)
			}
		}
	}
}

func TestMended(t *testing.T) {
	b := example()
	b.Stocks[0].Notches, b.Stocks[1].Notches = list(worn, 3, worn), list(worn, worn, worn)
	for _, x := range []struct {
		stock, foil int
		want        []int
	}{
		{1, 11, list(2, 3, 4)}, {1, 12, list(2, 3, 9)}, {1, 13, list(8, 3, 8)}, {2, 11, list(2, 3, 4)}, {2, 12, list(2, worn, 9)}, {3, 13, list(0, 0, 5)}, {3, 12, list(0, 0, 5)},
	} {
		if l, e := tally.Mended(b, x.stock, x.foil); !slices.Equal(l, x.want) || e != api.OK {
			t.Error("P7.9:", x, l, e)
		}
	}
	if l, e := tally.Mended(example(), 2, 12); !slices.Equal(l, list(2, 3, 9)) || e != api.OK {
		t.Error("P7.9:", l, e)
	}
}

func TestWorse(t *testing.T) {
	for _, id := range list(1, 2, 3, 11, 12, 13) {
		for place := range 3 {
			want := example()
			for _, l := range [][]api.Tally{want.Stocks, want.Foils} {
				for _, x := range l {
					if x.ID == id {
						x.Notches[place] = worn
					}
				}
			}
			if b, e := tally.Worse(example(), id, place); !equalBundles(b, want) || e != api.OK {
				t.Error("P7.10:", id, place, b, e)
			}
		}
	}
}

func TestWithout(t *testing.T) {
	x := example()
	for _, c := range []struct {
		ids           []int
		stocks, foils []api.Tally
	}{
		{nil, x.Stocks, x.Foils}, {list(), x.Stocks, x.Foils}, {list(0, -1, 4, 7, 21, 22, math.MaxInt, math.MinInt), x.Stocks, x.Foils},
		{list(1), x.Stocks[1:], x.Foils}, {list(2, 2, 9, 2), sticks(x.Stocks[0], x.Stocks[2]), x.Foils}, {list(13, 1), x.Stocks[1:], x.Foils[:2]}, {list(12), x.Stocks, sticks(x.Foils[0], x.Foils[2])},
		{list(3, 2, 1), nil, x.Foils}, {list(11, 12, 13), x.Stocks, nil}, {list(1, 2, 3, 11, 12, 13), nil, nil}, {make([]int, 100000), x.Stocks, x.Foils},
	} {
		if b, e := tally.Without(example(), c.ids); !equalBundles(b, of(c.stocks, c.foils)) || e != api.OK {
			t.Error("P7.10:", c, b, e)
		}
	}
}

package tally_test

import (
	"math/rand/v2"
	"slices"
	"testing"

	"calx/api"
	"calx/tally"
)

// shuffled is a bundle with its stocks and foils in another order.
func (c chance) shuffled(b api.Bundle) api.Bundle {
	b = cloneBundle(b)
	c.Shuffle(len(b.Stocks), func(i, k int) { b.Stocks[i], b.Stocks[k] = b.Stocks[k], b.Stocks[i] })
	c.Shuffle(len(b.Foils), func(i, k int) { b.Foils[i], b.Foils[k] = b.Foils[k], b.Foils[i] })
	return b
}

// checkSame checks that two bundles with the same tallies have the same costs of cheapest ways, and what follows from them.
func checkSame(t *testing.T, a, b api.Bundle, all []api.Pair) {
	t.Helper()
	m, e := tally.Best(a)
	n, e2 := tally.Best(b)
	if m.Cost != n.Cost || e != api.OK || e2 != api.OK {
		t.Error("P7.17:", m, n, e, e2)
	}
	for _, p := range all {
		made, e := tally.Made(a, p.Stock, p.Foil)
		same, e2 := tally.Made(b, p.Stock, p.Foil)
		if made != same || e != e2 {
			t.Error("P7.17:", p, made, same, e, e2)
		}
		missed, e := tally.Missed(a, p.Stock, p.Foil)
		same, e2 = tally.Missed(b, p.Stock, p.Foil)
		if missed != same || e != e2 {
			t.Error("P7.17:", p, missed, same, e, e2)
		}
	}
	for who := range 4 {
		owed, e := tally.Owed(a, who)
		same, e2 := tally.Owed(b, who)
		if owed != same || e != api.OK || e2 != api.OK {
			t.Error("P7.17:", who, owed, same, e, e2)
		}
	}
}

// inOrder is pairs in the order of their IDs.
func inOrder(l []api.Pair) []api.Pair {
	l = slices.Clone(l)
	slices.SortFunc(l, func(p, q api.Pair) int { return slices.Compare(list(p.Stock, p.Foil), list(q.Stock, q.Foil)) })
	return l
}

// TestOrder: the order of stocks and foils does not matter for costs, Made, Missed and Owed; Sure, Possible and Lost tell the same, in the order of each bundle.
func TestOrder(t *testing.T) {
	manyBundles(t, 83, 250, func(t *testing.T, c chance, b api.Bundle, _ courses) {
		other := c.shuffled(b)
		checkSame(t, b, other, allPairs(b))
		for _, f := range []func(api.Bundle) ([]api.Pair, api.Errno){tally.Sure, tally.Possible} {
			l, _ := f(b)
			m, _ := f(other)
			if !slices.Equal(inOrder(l), inOrder(m)) {
				t.Error("P7.5:", l, m)
			}
		}
	})
	for seed := range uint64(6) {
		c := chanceOf(84 + seed)
		b := c.great()
		var some []api.Pair
		for _, p := range allPairs(b) {
			if c.IntN(8) == 0 {
				some = append(some, p)
			}
		}
		checkSame(t, b, c.shuffled(b), some)
	}
}

// TestWithoutMatters: a tally that is Without matters no more: whatever it was, all else is told as if it had never been.
func TestWithoutMatters(t *testing.T) {
	manyBundles(t, 90, 250, func(t *testing.T, c chance, b api.Bundle, _ courses) {
		more := cloneBundle(b)
		extra := c.bundle(kind{c.from(1, 3), c.from(1, 3), len(b.Worths), 3, 1, 1, 3})
		var ids []int
		put := func(l []api.Tally, x api.Tally) []api.Tally {
			x.ID += 1000
			ids = append(ids, x.ID)
			return slices.Insert(l, c.IntN(len(l)+1), x)
		}
		for _, x := range extra.Stocks {
			more.Stocks = put(more.Stocks, x)
		}
		for _, x := range extra.Foils {
			more.Foils = put(more.Foils, x)
		}
		less, e := tally.Without(more, ids)
		if !equalBundles(less, b) || e != api.OK {
			t.Error("P7.10:", less, e)
		}
		checkSame(t, less, b, allPairs(b))
		for _, id := range ids {
			if s, e := tally.Value(less, id); s != (api.Span{}) || e != api.ErrNone {
				t.Error("P7.17:", id, s, e)
			}
		}
	})
}

// half is a half of a stick of which notches may have worn off, or have been cut wrongly.
func (c chance) half(notches []int) []int {
	half := slices.Clone(notches)
	for i := range half {
		switch c.IntN(8) {
		case 0:
			half[i] = worn
		case 1:
			half[i] = c.IntN(api.MaxNotch + 1)
		}
	}
	return half
}

// TestTruePairs: the cheapest way costs no more than what truly happened to sticks (T7).
func TestTruePairs(t *testing.T) {
	c, whole := chanceOf(91), 0
	for range 1500 {
		b := c.bundle(kind{0, 0, c.from(1, api.MaxNotches), 9, []int{5, 30, api.MaxFee}[c.IntN(3)], 9, 1})
		cost, id := 0, 1
		for range c.from(1, api.MaxTallies) {
			notches := make([]int, len(b.Worths))
			for i := range notches {
				notches[i] = c.IntN(api.MaxNotch + 1)
			}
			stock, foil := c.half(notches), c.half(notches)
			switch c.IntN(6) {
			case 0:
				b.Stocks = append(b.Stocks, stick(id, 0, stock...))
				cost += b.LostStock
			case 1:
				b.Foils = append(b.Foils, stick(id+1, 0, foil...))
				cost += b.LostFoil
			default:
				b.Stocks = append(b.Stocks, stick(id, 0, stock...))
				b.Foils = append(b.Foils, stick(id+1, 0, foil...))
				for i := range notches {
					// Each half that is worn at a place costs, and each difference.
					if stock[i] == worn {
						cost += b.Worn
					}
					if foil[i] == worn {
						cost += b.Worn
					}
					if stock[i] != worn && foil[i] != worn && stock[i] != foil[i] {
						cost += b.Wrong
					}
				}
			}
			id += 2
		}
		m, e := tally.Best(c.shuffled(b))
		if m.Cost > cost || e != api.OK {
			t.Fatal("P7.15, T7:", b, m, e, cost)
		}
		if m.Cost == cost {
			whole++
		}
	}
	if whole < 100 {
		t.Error("too few bundles that are put together as they were:", whole)
	}
}

// TestTrueSticks: sticks that are all different, and whose halves are whole, are put together as they were, whatever the order.
func TestTrueSticks(t *testing.T) {
	r := rand.New(rand.NewPCG(92, 7))
	for range 40 {
		b := api.Bundle{Wrong: 1 + r.IntN(9), Worn: 1, LostStock: 1, LostFoil: 1, Worths: list(10, 1)}
		var want []int
		for i, n := range r.Perm(100)[:api.MaxTallies] {
			b.Stocks = append(b.Stocks, stick(i+1, 3, n/10, n%10))
			b.Foils = append(b.Foils, stick(i+101, 4, n/10, n%10))
		}
		r.Shuffle(len(b.Foils), func(i, k int) { b.Foils[i], b.Foils[k] = b.Foils[k], b.Foils[i] })
		for i := range b.Stocks {
			want = append(want, i+101)
		}
		m, e := tally.Best(b)
		if m.Cost != 0 || !slices.Equal(m.Given, want) || e != api.OK {
			t.Error("P7.15:", b, m, e)
		}
		if s, e := tally.Sure(b); len(s) != api.MaxTallies || e != api.OK {
			t.Error("P7.15:", s, e)
		}
	}
}

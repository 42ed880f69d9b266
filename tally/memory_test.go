package tally_test

import (
	"slices"
	"testing"

	"calx/api"
	"calx/tally"
)

// roomy returns a bundle with the same content, all lists of which have more behind their ends, and these lists with that.
func roomy(b api.Bundle) (api.Bundle, api.Bundle) {
	long := cloneBundle(b)
	short := b
	long.Worths = append(long.Worths, -7)
	long.Stocks = append(long.Stocks, stick(-7, -7))
	long.Foils = append(long.Foils, stick(-7, -7))
	short.Worths, short.Stocks, short.Foils = long.Worths[:len(b.Worths)], slices.Clone(long.Stocks), slices.Clone(long.Foils)
	for _, l := range [][2][]api.Tally{{long.Stocks, short.Stocks}, {long.Foils, short.Foils}} {
		for i := range l[0] {
			l[0][i].Notches = append(l[0][i].Notches, -7)
			l[1][i].Notches = l[0][i].Notches[:len(l[0][i].Notches)-1]
		}
	}
	short.Stocks, short.Foils = short.Stocks[:len(b.Stocks)], short.Foils[:len(b.Foils)]
	return short, long
}

func spoilList(l []int) {
	l = l[:cap(l)]
	for i := range l {
		l[i] = -77
	}
}

func spoilPairs(l []api.Pair) {
	l = l[:cap(l)]
	for i := range l {
		l[i] = api.Pair{Stock: -77}
	}
}

// spoilBundle makes all that a bundle tells another thing, and checks that none of its lists shares memory with another one.
func spoilBundle(t *testing.T, b api.Bundle) {
	t.Helper()
	lists := [][]int{b.Worths}
	for _, x := range slices.Concat(b.Stocks, b.Foils) {
		lists = append(lists, x.Notches)
	}
	checkApart(t, lists...)
	for _, l := range [][]api.Tally{b.Stocks, b.Foils} {
		l = l[:cap(l)]
		for i := range l {
			l[i] = stick(-77, -77)
		}
	}
}

// checkApart spoils lists, and checks that none shares memory with another one.
func checkApart(t *testing.T, lists ...[]int) {
	t.Helper()
	for i, l := range lists {
		spoilList(l)
		for _, other := range lists[i+1:] {
			if slices.Contains(other, -77) {
				t.Error("R6: lists of a result share memory")
			}
		}
	}
}

// useAll calls all functions of the example, spoils what they return, and does so once more.
func useAll(t *testing.T, b api.Bundle, given, ids []int, m api.Match) {
	t.Helper()
	for range 2 {
		if e := tally.Check(b); e != api.OK {
			t.Error("R6:", e)
		}
		if text, e := tally.Print(b); text != exampleText || e != api.OK {
			t.Error("R6:", text, e)
		}
		if e := tally.CheckBest(b, m); e != api.OK {
			t.Error("R6:", e)
		}
		best, e := tally.Best(b)
		if best.Cost != 10 || !proves(b, best) || e != api.OK {
			t.Error("R6:", best, e)
		}
		checkApart(t, best.Given, best.Stocks, best.Foils)
		sure, e1 := tally.Sure(b)
		possible, e2 := tally.Possible(b)
		if !slices.Equal(sure, pairs(1, 11, 2, 12)) || !slices.Equal(possible, pairs(1, 11, 2, 12, 3, 0, 3, 13)) || max(e1, e2) != api.OK {
			t.Error("R6:", sure, possible)
		}
		spoilPairs(sure)
		spoilPairs(possible)
		other, cost, e1 := tally.Other(b, given)
		mended, e2 := tally.Mended(b, 2, 12)
		if !slices.Equal(other, list(11, 12, 13)) || cost != 10 || !slices.Equal(mended, list(2, 3, 9)) || max(e1, e2) != api.OK {
			t.Error("R6:", other, cost, mended)
		}
		checkApart(t, other, mended)
		made, e1 := tally.Made(b, 1, 12)
		missed, e2 := tally.Missed(b, 1, 11)
		total, e3 := tally.Total(b, given)
		owed, e4 := tally.Owed(b, 22)
		if made != 6 || missed != 6 || total != 10 || owed != (api.Span{Lo: 239, Hi: 244}) || max(e1, e2, e3, e4) != api.OK {
			t.Error("R6:", made, missed, total, owed)
		}
		useOthers(t, b, ids)
	}
}

// useOthers does so with the functions that return lists of tallies.
func useOthers(t *testing.T, b api.Bundle, ids []int) {
	t.Helper()
	less, e := tally.Without(b, ids)
	if !equalBundles(less, of(b.Stocks[1:], b.Foils[:2])) || e != api.OK {
		t.Error("R6:", less, e)
	}
	none, e := tally.Without(b, nil)
	if !equalBundles(none, example()) || e != api.OK {
		t.Error("R6:", none, e)
	}
	worse, e := tally.Worse(b, 12, 0)
	if !slices.Equal(worse.Foils[1].Notches, list(worn, worn, 9)) || e != api.OK {
		t.Error("R6:", worse, e)
	}
	read, e, _ := tally.Parse(exampleText)
	if !equalBundles(read, example()) || e != api.OK {
		t.Error("R6:", read, e)
	}
	for _, x := range []api.Bundle{less, none, worse, read} {
		spoilBundle(t, x)
	}
	stocks, foils, e := tally.Lost(of(b.Stocks, nil))
	if !slices.Equal(stocks, list(1, 2, 3)) || len(foils) != 0 || e != api.OK {
		t.Error("R6:", stocks, foils, e)
	}
	spoilList(stocks)
	stocks, foils, e = tally.Lost(of(nil, b.Foils))
	if len(stocks) != 0 || !slices.Equal(foils, list(11, 12, 13)) || e != api.OK {
		t.Error("R6:", stocks, foils, e)
	}
	spoilList(foils)
}

// TestMemory: arguments stay as they are, also behind their ends; results share no memory.
func TestMemory(t *testing.T) {
	short, long := roomy(example())
	kept := cloneBundle(long)
	given, ids := list(11, 12, 0, 77, 78), list(13, 1, 2, 11)
	m := api.Match{Given: list(11, 12, 13, -7)[:3], Cost: 10, Stocks: list(0, 1, 5, -7)[:3], Foils: list(0, 0, 4, -7)[:3]}
	keptMatch := cloneMatch(m)
	useAll(t, short, given[:3], ids[:2], m)
	if !equalBundles(long, kept) || !equalBundles(short, example()) {
		t.Error("R6: an argument is changed:", long, short)
	}
	if !slices.Equal(given, list(11, 12, 0, 77, 78)) || !slices.Equal(ids, list(13, 1, 2, 11)) || !equalMatches(m, keptMatch) || m.Given[:4][3] != -7 || m.Stocks[:4][3] != -7 || m.Foils[:4][3] != -7 {
		t.Error("R6: an argument is changed:", given, ids, m)
	}
}

// TestAlike: the same is told each time (R7).
func TestAlike(t *testing.T) {
	for seed := range uint64(8) {
		c := chanceOf(500 + seed)
		b := c.great()
		if seed%2 == 0 {
			b.Wrong, b.Worn = 0, 0
		}
		m, _ := tally.Best(b)
		possible, _ := tally.Possible(b)
		other, cost, _ := tally.Other(b, m.Given)
		for range 3 {
			n, _ := tally.Best(cloneBundle(b))
			again, _ := tally.Possible(b)
			another, same, _ := tally.Other(b, m.Given)
			if !equalMatches(m, n) || !slices.Equal(possible, again) || !slices.Equal(other, another) || cost != same {
				t.Error("R7:", b)
			}
		}
	}
}

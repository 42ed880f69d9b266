package recipe_test

import (
	"math/big"
	"slices"
	"testing"

	"calx/api"
	"calx/recipe"
)

func TestHolding(t *testing.T) {
	r := ruled(t, "lime and sand", "lime at most sand except days 0 to 3 except days 5 to 5 except days 600 to 682; age sand from 1 to 2; lime from 0 to 1/2 except days 5 to 9;")
	for _, x := range []struct {
		day  int
		want []int
	}{
		{0, list(1, 2)}, {3, list(1, 2)}, {4, list(0, 1, 2)}, {5, list(1)}, {6, list(0, 1)}, {9, list(0, 1)}, {10, list(0, 1, 2)}, {599, list(0, 1, 2)}, {600, list(1, 2)}, {682, list(1, 2)},
	} {
		if l, e := recipe.Holding(r, x.day); !slices.Equal(l, x.want) || e != api.OK {
			t.Error("P6.2:", x, l, e)
		}
	}
	if l, e := recipe.Holding(named("a", []string{"b"}), 7); len(l) != 0 || e != api.OK {
		t.Error("P6.2:", l, e)
	}
}

func TestBroken(t *testing.T) {
	r := parsed(t, example)
	most := api.MaxPounds
	for _, x := range []struct {
		r    api.Recipe
		m    api.Mortar
		day  int
		want []int
	}{
		{r, mortar(list(30, 60, 10), list(20, 0, 0)), 5, nil},
		{r, mortar(list(40, 60, 0), list(7, 0, 0)), 5, list(1, 3)},
		{r, mortar(list(1, 1, 0), list(14, 0, 0)), 5, list(1)}, {r, mortar(list(101, 99, 0), list(60, 0, 0)), 5, list(0, 1)}, {r, mortar(list(24, 76, 0), list(61, 0, 0)), 5, list(0, 3)}, {r, mortar(list(25, 75, 0), list(13, 1000, 1000)), 5, list(3)},
		{r, mortar(list(33, 57, 10), list(60, 0, 0)), 5, nil}, {r, mortar(list(33, 56, 11), list(60, 0, 0)), 5, list(2)}, {r, mortar(list(33, 56, 11), list(60, 0, 0)), 99, list(2)}, {r, mortar(list(33, 56, 11), list(60, 0, 0)), 100, nil}, {r, mortar(list(33, 56, 11), list(60, 0, 0)), 120, nil}, {r, mortar(list(33, 56, 11), list(60, 0, 0)), 121, list(2)},
		{r, mortar(list(0, 0, 1), list(0, 0, 0)), 0, list(0, 2, 3)}, {r, mortar(list(0, 0, 1), list(0, 0, 0)), 110, list(0, 3)},
		// An age is asked for of nothing, too.
		{ruled(t, "a and b", "age a from 2 to 3;"), mortar(list(0, 1), list(1, 2)), 0, list(0)}, {ruled(t, "a and b", "age a from 2 to 3;"), mortar(list(0, 1), list(2, 0)), 0, nil}, {ruled(t, "a and b", "age b from 2 to 3;"), mortar(list(1, 0), list(9, 3)), 0, nil}, {ruled(t, "a and b", "age b from 2 to 3;"), mortar(list(1, 0), list(2, 4)), 0, list(0)},
		// Shares of the greatest numbers of pounds that differ by one pound.
		{ruled(t, "a and b", "a from 1/2 to 1/2;"), mortar(list(most, most), list(0, 0)), 0, nil}, {ruled(t, "a and b", "a from 1/2 to 1;"), mortar(list(most-1, most), list(0, 0)), 0, list(0)}, {ruled(t, "a and b", "a from 0 to 1/2;"), mortar(list(most, most-1), list(0, 0)), 0, list(0)}, {ruled(t, "a and b", "a from 0 to 1/2;"), mortar(list(most-1, most), list(0, 0)), 0, nil},
		{ruled(t, "a and b and c and d", "a from 1/4 to 1/4; 20 a + 20 b at most 20 c + 20 d;"), mortar(list(most, most, most, most), list(0, 0, 0, 0)), 0, nil}, {ruled(t, "a and b and c and d", "a from 1/4 to 1/4; 20 a + 20 b at most 20 c + 20 d;"), mortar(list(most, most, most, most-1), list(0, 0, 0, 0)), 0, list(0, 1)},
		{ruled(t, "a and b", "a + b at most 2 a;"), mortar(list(3, 3), list(0, 0)), 0, nil}, {ruled(t, "a and b", "a + b at most 2 a;"), mortar(list(3, 4), list(0, 0)), 0, list(0)}, {ruled(t, "a and b", "2 a at most a;"), mortar(list(0, 4), list(0, 0)), 0, nil}, {ruled(t, "a and b", "2 a at most a;"), mortar(list(1, 4), list(0, 0)), 0, list(0)}, {ruled(t, "a", "a at most a; a from 1 to 1; a from 0 to 59/60;"), mortar(list(1), list(0)), 0, list(2)},
	} {
		if l, e := recipe.Broken(x.r, x.m, x.day); !slices.Equal(l, x.want) || e != api.OK {
			t.Error("P6.2:", x.r, x.m, x.day, l, e)
		}
	}
}

// TestBrokenAlike compares Holding and Broken with what the chapter says of each rule.
func TestBrokenAlike(t *testing.T) {
	for seed := range uint64(3000) {
		c := chanceOf(seed)
		r := c.any("some")
		day := c.from(0, 30)
		m := c.mortar(len(r.Stuffs), []int{3, 20, api.MaxPounds}[c.IntN(3)], 40)
		if l, e := recipe.Holding(r, day); !slices.Equal(l, holdingOn(r, day)) || e != api.OK {
			t.Fatal("P6.2:", r, day, l, e)
		}
		if l, e := recipe.Broken(r, m, day); !slices.Equal(l, brokenOn(r, m, day)) || e != api.OK {
			t.Fatal("P6.2:", r, m, day, l, e)
		}
	}
}

func TestShares(t *testing.T) {
	most := api.MaxPounds
	for _, x := range []struct {
		pounds []int
		want   []api.Ratio
	}{
		{list(30, 60, 10), []api.Ratio{ratio(3, 10), ratio(3, 5), ratio(1, 10)}},
		{list(7), []api.Ratio{ratio(1, 1)}}, {list(0, 7), []api.Ratio{ratio(0, 1), ratio(1, 1)}}, {list(7, 0, 7), []api.Ratio{ratio(1, 2), ratio(0, 1), ratio(1, 2)}},
		{list(most, most, most, most), slices.Repeat([]api.Ratio{ratio(1, 4)}, 4)},
		{list(most, most-1), []api.Ratio{ratio(most, 2*most-1), ratio(most-1, 2*most-1)}}, {list(1, most, most, most-1), []api.Ratio{ratio(1, 3*most), ratio(1, 3), ratio(1, 3), ratio((most-1)/3, most)}},
	} {
		n := len(x.pounds)
		if l, e := recipe.Shares(named("a", allStuffs()[:n]), mortar(x.pounds, make([]int, n))); !slices.Equal(l, x.want) || e != api.OK {
			t.Error("P6.3:", x.pounds, l, e)
		}
	}
	for seed := range uint64(500) {
		c := chanceOf(seed)
		n := c.from(1, 4)
		m := c.mortar(n, []int{4, 100, api.MaxPounds}[c.IntN(3)], 0)
		l, e := recipe.Shares(named("a", allStuffs()[:n]), m)
		if e != api.OK || !slices.EqualFunc(l, pointOf(m), func(a api.Ratio, b *big.Rat) bool { return a == toldOf(b) }) {
			t.Fatal("P6.3:", m, l, e)
		}
	}
}

func TestBlend(t *testing.T) {
	r := named("a", []string{"b", "c", "d"})
	most := api.MaxPounds
	for _, x := range []struct {
		a, b, want api.Mortar
		e          api.Errno
	}{
		{mortar(list(1, 2, 3), list(4, 5, 6)), mortar(list(10, 20, 30), list(3, 5, 7)), mortar(list(11, 22, 33), list(3, 5, 6)), api.OK},
		// Where one has nothing of a material, the age of the other one counts.
		{mortar(list(0, 1, 0), list(4, 5, 6)), mortar(list(1, 0, 30), list(9, 1, 6)), mortar(list(1, 1, 30), list(9, 5, 6)), api.OK},
		{mortar(list(0, 2, 0), list(9, 1, 6)), mortar(list(10, 0, 30), list(4, 5, 7)), mortar(list(10, 2, 30), list(4, 1, 7)), api.OK},
		{mortar(list(0, 2, 0), list(4, 5, 6)), mortar(list(0, 1, 0), list(9, 9, 2)), mortar(list(0, 3, 0), list(4, 5, 2)), api.OK},
		{mortar(list(most, most-1, 0), list(0, 0, 0)), mortar(list(0, 1, most), list(0, 0, 0)), mortar(list(most, most, most), list(0, 0, 0)), api.OK},
		{mortar(list(most, 1, 1), list(0, 0, 0)), mortar(list(1, 1, 1), list(0, 0, 0)), api.Mortar{}, api.ErrRange},
		{mortar(list(1, 1, most), list(0, 0, 0)), mortar(list(1, 1, most), list(0, 0, 0)), api.Mortar{}, api.ErrRange},
		{mortar(list(1, most, most), list(0, 0, 0)), mortar(list(1, 1, 0), list(0, 0, 1001)), api.Mortar{}, api.ErrArg},
		{mortar(list(1, most, most), list(0, 0, -1)), mortar(list(1, 1, 0), list(0, 0, 1)), api.Mortar{}, api.ErrArg},
	} {
		if m, e := recipe.Blend(r, x.a, x.b); !equalMortars(m, x.want) || e != x.e {
			t.Error("P6.3:", x, m, e)
		}
		if m, e := recipe.Blend(r, x.b, x.a); !equalMortars(m, x.want) || e != x.e {
			t.Error("P6.3:", x, m, e)
		}
	}
}

// TestBlends: what two mortars keep, their blend keeps, and its shares lie between theirs.
func TestBlends(t *testing.T) {
	kept := 0
	for seed := range uint64(2000) {
		c := chanceOf(seed)
		r := c.recipe("some", c.from(1, 4), c.IntN(3), 6, 3)
		a, b := c.mortar(len(r.Stuffs), 9, 40), c.mortar(len(r.Stuffs), 9, 40)
		m, e := recipe.Blend(r, a, b)
		if e != api.OK {
			t.Fatal("P6.3:", r, a, b, e)
		}
		p, _ := recipe.Shares(r, a)
		q, _ := recipe.Shares(r, b)
		both, _ := recipe.Shares(r, m)
		for i := range both {
			lo, hi := ratOf(p[i]), ratOf(q[i])
			if lo.Cmp(hi) > 0 {
				lo, hi = hi, lo
			}
			if n := ratOf(both[i]); n.Cmp(lo) < 0 || n.Cmp(hi) > 0 {
				t.Fatal("P6.12:", r, a, b, m)
			}
		}
		isShares := func(i int) bool { return r.Rules[i].Kind != api.RuAge }
		brokenBy := func(m api.Mortar) bool {
			l, _ := recipe.Broken(r, m, 25)
			return slices.ContainsFunc(l, isShares)
		}
		if !brokenBy(a) && !brokenBy(b) {
			kept++
			if brokenBy(m) {
				t.Fatal("P6.12:", r, a, b, m)
			}
		}
	}
	if kept < 300 {
		t.Error("too few that keep all:", kept)
	}
}

func TestChanges(t *testing.T) {
	for _, x := range []struct {
		rules string
		want  []int
	}{
		{"", nil}, {"a at most b;", nil}, {"a at most b except days 0 to 682;", nil}, {"a at most b except days 100 to 120;", list(100, 121)},
		{"a at most b except days 0 to 4;", list(5)}, {"a at most b except days 1 to 4;", list(1, 5)}, {"a at most b except days 600 to 682;", list(600)}, {"a at most b except days 682 to 682;", list(682)}, {"a at most b except days 600 to 681;", list(600, 682)}, {"a at most b except days 0 to 0;", list(1)},
		{"a at most b except days 5 to 5 except days 7 to 7;", list(5, 6, 7, 8)},
		// As many rules hold, but others; or one ends as another one begins.
		{"a at most b except days 5 to 9; b at most a except days 10 to 14;", list(5, 10, 15)}, {"a at most b except days 5 to 9; b at most a except days 5 to 9;", list(5, 10)}, {"age a from 0 to 1 except days 3 to 6; b from 0 to 1 except days 5 to 9;", list(3, 5, 7, 10)},
	} {
		if l, e := recipe.Changes(ruled(t, "a and b", x.rules)); !slices.Equal(l, x.want) || e != api.OK {
			t.Error("P6.8:", x, l, e)
		}
	}
	if l, e := recipe.Changes(parsed(t, example)); !slices.Equal(l, list(100, 121)) || e != api.OK {
		t.Error("P6.8:", l, e)
	}
}

// TestChangesAlike compares Changes with the rules that hold on all days, and checks that nothing else changes between them.
func TestChangesAlike(t *testing.T) {
	for seed := range uint64(100) {
		c := chanceOf(seed)
		r := c.any("some")
		var want []int
		for day := 1; day <= api.MaxDay; day++ {
			if !slices.Equal(holdingOn(r, day), holdingOn(r, day-1)) {
				want = append(want, day)
			}
		}
		l, e := recipe.Changes(r)
		if !slices.Equal(l, want) || e != api.OK {
			t.Fatal("P6.8:", r, l, e)
		}
		m := c.mortar(len(r.Stuffs), 9, 40)
		for day := 1; day < 60; day++ {
			before, _ := recipe.Broken(r, m, day-1)
			after, _ := recipe.Broken(r, m, day)
			if !slices.Contains(l, day) && !slices.Equal(before, after) {
				t.Fatal("P6.15:", r, m, day, before, after)
			}
		}
	}
}

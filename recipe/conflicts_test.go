package recipe_test

import (
	"math"
	"slices"
	"testing"

	"calx/api"
	"calx/recipe"
)

func TestConflict(t *testing.T) {
	for _, x := range []struct {
		stuffs, rules string
		want          []int
		e             api.Errno
	}{
		{"a", "", nil, api.ErrNone}, {"a", "a from 0 to 1/2;", list(0), api.OK}, {"a", "a from 0 to 1;", nil, api.ErrNone}, {"a", "a at most a; 2 a at most a;", list(1), api.OK},
		{"a and b", "a from 1 to 1; b from 1 to 1;", list(0, 1), api.OK}, {"a and b", "a from 1 to 1; b from 1 to 1; a from 0 to 0; b from 0 to 0;", list(2, 3), api.OK}, {"a and b", "a from 1 to 1; b from 0 to 1; b from 1 to 1;", list(0, 2), api.OK},
		{"a and b", "a from 1 to 1; b from 1 to 1 except days 7 to 7;", nil, api.ErrNone}, {"a and b", "a from 1 to 1 except days 6 to 8; b from 1 to 1; a from 1/2 to 1;", list(1, 2), api.OK},
		{"a and b", "age a from 1 to 2; age b from 3 to 4; age a from 3 to 4;", list(0, 2), api.OK}, {"a and b", "age a from 1 to 2; age b from 3 to 4; age a from 2 to 4;", nil, api.ErrNone},
		// Of two conflicts, that which is gone through last is left.
		{"a and b", "age a from 1 to 2; age a from 3 to 4; a from 1 to 1; b from 1 to 1;", list(2, 3), api.OK}, {"a and b", "a from 1 to 1; b from 1 to 1; age a from 1 to 2; age a from 3 to 4;", list(2, 3), api.OK}, {"a and b", "a from 1 to 1; age a from 1 to 2; age a from 3 to 4; b from 1 to 1;", list(1, 2), api.OK},
		{"a and b and c", "a from 1/3 to 1; b from 1/3 to 1; c from 1/2 to 1;", list(0, 1, 2), api.OK}, {"a and b and c and d", "a at most b; 2 b at most c; c at most d; b from 1/60 to 1; 2 d at most 2 a;", list(0, 1, 2, 4), api.OK}, {"a and b and c and d", "a at most b; 2 b at most c; c at most d; d at most 7 a; a from 1/4 to 1;", list(0, 1, 2, 4), api.OK}, {"a and b and c and d", "a at most b; 2 b at most c; c at most d; d at most a;", list(0, 1, 2, 3), api.OK},
	} {
		r := ruled(t, x.stuffs, x.rules)
		l, e := recipe.Conflict(r, 7)
		if !slices.Equal(l, x.want) || e != x.e {
			t.Error("P6.6:", x, l, e)
		}
		if e := recipe.CheckConflict(r, 7, x.want); x.e == api.OK && e != api.OK || x.e != api.OK && e != api.ErrProof {
			t.Error("P6.6:", x, e)
		}
	}
}

func TestCheckConflict(t *testing.T) {
	r := ruled(t, "a and b", "a from 1 to 1; age a from 1 to 2 except days 7 to 7; b from 1 to 1; a at most a; 2 a + b at most b;")
	for _, x := range []struct {
		rules []int
		want  api.Errno
	}{
		{nil, api.ErrProof}, {list(0), api.ErrProof}, {list(0, 2), api.OK}, {list(0, 2, 3), api.OK}, {list(0, 4), api.OK}, {list(0, 3), api.ErrProof}, {list(2, 3, 4), api.ErrProof}, {list(0, 2, 3, 4), api.OK},
		{list(1), api.ErrArg}, {list(0, 1, 2), api.ErrArg}, {list(2, 0), api.ErrArg}, {list(0, 0, 2), api.ErrArg}, {list(0, 2, 2), api.ErrArg}, {list(-1, 0, 2), api.ErrArg}, {list(0, 2, 5), api.ErrArg}, {list(0, 2, math.MaxInt), api.ErrArg}, {list(math.MinInt), api.ErrArg}, {list(3, 3), api.ErrArg}, {make([]int, 1000), api.ErrArg},
	} {
		if e := recipe.CheckConflict(r, 7, x.rules); e != x.want {
			t.Error("P6.6:", x, e)
		}
	}
	if e := recipe.CheckConflict(r, 6, list(0, 1, 2)); e != api.OK {
		t.Error("P6.6:", e)
	}
}

func TestIdle(t *testing.T) {
	for _, x := range []struct {
		stuffs, rules string
		want          []int
	}{
		{"a", "", nil}, {"a", "a from 0 to 1; a at most a; a from 1 to 1; age a from 0 to 1000; age a from 0 to 999;", list(0, 1, 2, 3)}, {"a and b", "a at most b; 2 a at most 2 b;", list(0, 1)}, {"a and b", "a at most b; a at most 2 b;", list(1)}, {"a and b", "a at most b; b at most a; a from 1/2 to 1/2;", list(0, 1, 2)}, {"a and b", "a at most b; b at most a; b from 1/2 to 1;", list(0, 2)},
		{"a and b", "age a from 1 to 5; age a from 2 to 5; age a from 1 to 4;", list(0)}, {"a and b", "age a from 1 to 5; age b from 1 to 5;", nil}, {"a and b", "age a from 1 to 5; age a from 1 to 5;", list(0, 1)}, {"a and b", "age a from 0 to 5; age a from 1 to 1000;", nil},
		// Rules that do not hold are not idle, and make none idle.
		{"a and b", "a at most b; 2 a at most 2 b except days 7 to 7;", nil}, {"a and b", "a at most b except days 1 to 9; a at most 2 b; a from 0 to 1 except days 7 to 8;", nil},
		// If no mortar keeps the others, either, a rule is idle.
		{"a and b", "a from 1 to 1; b from 1 to 1;", nil}, {"a and b", "a from 1 to 1; b from 1 to 1; age a from 3 to 4; a from 1/2 to 1;", list(0, 2, 3)}, {"a and b", "age a from 3 to 4; age a from 5 to 6; a at most b; age b from 1 to 2;", list(2, 3)}, {"a and b", "a from 1 to 1; b from 1 to 1; age a from 1 to 2; age a from 3 to 4;", list(0, 1, 2, 3)},
	} {
		if l, e := recipe.Idle(ruled(t, x.stuffs, x.rules), 7); !slices.Equal(l, x.want) || e != api.OK {
			t.Error("P6.6:", x, l, e)
		}
	}
}

// TestConflictsAlike compares Conflict, CheckConflict and Idle with regions.
func TestConflictsAlike(t *testing.T) {
	conflicts, idle := 0, 0
	for seed := range uint64(1000) {
		c := chanceOf(seed)
		r := c.recipe("some", c.from(1, 4), c.IntN(9), 6, 3)
		day := c.from(0, 30)
		rules := holdingOn(r, day)
		l, e := recipe.Conflict(r, day)
		_, made := recipe.Make(r, day)
		if made == api.OK != (e == api.ErrNone) || made == api.ErrClash != (e == api.OK) {
			t.Fatal("P6.13:", r, day, l, e, made)
		}
		if e == api.OK {
			conflicts++
			if !slices.Equal(l, left(r, rules)) {
				t.Fatal("P6.6:", r, day, l)
			}
			if e := recipe.CheckConflict(r, day, l); e != api.OK {
				t.Fatal("P6.13:", r, day, l, e)
			}
			for _, i := range l {
				if e := recipe.CheckConflict(r, day, less(l, i)); e != api.ErrProof {
					t.Fatal("P6.13:", r, day, l, i, e)
				}
			}
		}
		some := slices.DeleteFunc(slices.Clone(rules), func(int) bool { return c.IntN(3) == 0 })
		if e := recipe.CheckConflict(r, day, some); regionOf(r, some).isEmpty() != (e == api.OK) || e != api.OK && e != api.ErrProof {
			t.Fatal("P6.6:", r, day, some, e)
		}
		l, e = recipe.Idle(r, day)
		idle += len(l)
		if !slices.Equal(l, idleOn(r, day)) || e != api.OK {
			t.Fatal("P6.6:", r, day, l, e)
		}
	}
	if conflicts < 200 || idle < 200 {
		t.Error("too few of a sort:", conflicts, idle)
	}
}

// TestConflictGrid: each small mortar breaks one of the rules that cannot all be kept.
func TestConflictGrid(t *testing.T) {
	for seed := range uint64(300) {
		c := chanceOf(seed)
		r := c.recipe("some", c.from(1, 4), c.from(2, 5), 4, 3)
		l, e := recipe.Conflict(r, 25)
		if e != api.OK {
			continue
		}
		grid(len(r.Stuffs), 4, func(m api.Mortar) {
			for i := range m.Ages {
				m.Ages[i] = c.from(0, 40)
			}
			broken, _ := recipe.Broken(r, m, 25)
			if !slices.ContainsFunc(l, func(i int) bool { return slices.Contains(broken, i) }) {
				t.Fatal("P6.13:", r, l, m, broken)
			}
		})
	}
}

func TestWithin(t *testing.T) {
	for _, x := range []struct {
		a, b string
		want bool
	}{
		{"", "", true}, {"a at most b;", "", true}, {"", "a at most b;", false}, {"a at most b;", "a at most 2 b;", true}, {"a at most 2 b;", "a at most b;", false}, {"a from 1/3 to 1/2;", "a from 0 to 1/2;", true}, {"a from 1/3 to 1/2;", "b from 1/2 to 2/3;", true}, {"a from 1/3 to 1/2;", "b from 1/2 to 39/59;", false}, {"a from 1/3 to 1/2;", "b from 31/60 to 1;", false},
		{"a at most b; b at most a;", "a from 1/2 to 1/2;", true}, {"", "a from 0 to 1; age a from 0 to 1000; a + b at most b + a;", true},
		{"age a from 2 to 3;", "age a from 1 to 3;", true}, {"age a from 2 to 3;", "age a from 2 to 4;", true}, {"age a from 2 to 3;", "age a from 3 to 4;", false}, {"age a from 2 to 3;", "age a from 1 to 2;", false}, {"age a from 2 to 3;", "age b from 2 to 3;", false}, {"age b from 2 to 3;", "age b from 2 to 3;", true}, {"", "age b from 0 to 999;", false}, {"", "age b from 1 to 1000;", false}, {"a from 1 to 1;", "age b from 1 to 1000;", false},
		// What nothing keeps is within everything, and only that is within what nothing keeps.
		{"a from 0 to 0; b from 0 to 0;", "a from 1 to 1; b from 1 to 1;", true}, {"age a from 0 to 0; age a from 1 to 1;", "b from 1 to 1;", true}, {"a from 1 to 1; age b from 0 to 0; age b from 1 to 1;", "a from 0 to 0;", true}, {"a from 0 to 0; b from 0 to 0;", "age a from 7 to 7;", true}, {"", "a from 0 to 0; b from 0 to 0;", false},
		// Only what holds on the day counts, in each recipe by its own exceptions.
		{"a at most b except days 7 to 7;", "a at most b;", false}, {"a at most b;", "a at most b except days 7 to 7;", true}, {"", "a at most b except days 7 to 7;", true}, {"a at most b except days 6 to 6;", "a at most b except days 8 to 9;", true},
	} {
		a, b := ruled(t, "a and b", x.a), ruled(t, "a and b", x.b)
		b.Name = "other"
		m, is, e := recipe.Within(a, b, 7)
		checkWithin(t, a, b, 7, m, is, e)
		if is != x.want {
			t.Error("P6.7:", x, m, is, e)
		}
	}
}

// checkWithin checks a mortar that keeps a, and not b.
func checkWithin(t *testing.T, a, b api.Recipe, day int, m api.Mortar, is bool, e api.Errno) {
	t.Helper()
	if e != api.OK || is && !isNoMortar(m) {
		t.Fatal("P6.7:", a, b, m, is, e)
	}
	if !is && (recipe.CheckMortar(a, m) != api.OK || len(brokenOn(a, m, day)) > 0 || len(brokenOn(b, m, day)) == 0) {
		t.Fatal("P6.14:", a, b, m)
	}
}

// TestWithinAlike compares Within with regions of both recipes, and with small mortars; and Idle with Within.
func TestWithinAlike(t *testing.T) {
	within, not := 0, 0
	for seed := range uint64(1500) {
		c := chanceOf(seed)
		n := c.from(1, 4)
		a, b := c.recipe("one", n, c.IntN(6), 4, 3), c.recipe("other", n, c.IntN(3), 4, 3)
		if c.IntN(2) == 0 {
			b.Rules = slices.DeleteFunc(slices.Clone(a.Rules), func(api.Rule) bool { return c.IntN(3) == 0 })
			b = with(b, c.share(b.Stuffs, 4))
		}
		day := c.from(0, 30)
		m, is, e := recipe.Within(a, b, day)
		checkWithin(t, a, b, day, m, is, e)
		if is != isWithin(a, b, day) {
			t.Fatal("P6.7:", a, b, day, m, is)
		}
		if is {
			within++
			grid(n, 3, func(m api.Mortar) {
				if len(brokenOn(a, m, day)) == 0 && len(brokenOn(b, m, day)) > 0 {
					t.Fatal("P6.14:", a, b, day, m)
				}
			})
		} else {
			not++
		}
	}
	if min(within, not) < 300 {
		t.Error("too few of a sort:", within, not)
	}
}

// TestIdleWithin: a rule is idle exactly if the recipe without it, as it holds on the day, is within it.
func TestIdleWithin(t *testing.T) {
	for seed := range uint64(300) {
		c := chanceOf(seed)
		r := c.recipe("some", c.from(1, 4), c.IntN(8), 6, 3)
		day := c.from(0, 30)
		rules, _ := recipe.Holding(r, day)
		idle, _ := recipe.Idle(r, day)
		for _, i := range rules {
			_, is, e := recipe.Within(only(r, less(rules, i)), r, day)
			if e != api.OK || is != slices.Contains(idle, i) {
				t.Fatal("P6.14:", r, day, i, is, e)
			}
		}
	}
}

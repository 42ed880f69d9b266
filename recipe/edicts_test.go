package recipe_test

import (
	"math"
	"slices"
	"testing"

	"calx/api"
	"calx/recipe"
)

func edict(from, known int, r api.Recipe) api.Edict {
	return api.Edict{From: from, Known: known, Recipe: r}
}

// numbered returns a recipe with a name that is told from others by the age for which it asks.
func numbered(name string, n int) api.Recipe {
	return named(name, []string{"b"}, age("b", n, n))
}

func TestCheckEdicts(t *testing.T) {
	a, wrong := numbered("a", 1), named("a", nil)
	full := func(n int) []api.Edict {
		var l []api.Edict
		for i := range n {
			l = append(l, edict(i, 7, a))
		}
		return l
	}
	for i, x := range []struct {
		l    []api.Edict
		want api.Errno
	}{
		{nil, api.OK}, {[]api.Edict{}, api.OK}, {full(api.MaxRecipes), api.OK}, {full(api.MaxRecipes + 1), api.ErrLimit}, {make([]api.Edict, api.MaxRecipes+1), api.ErrLimit}, {make([]api.Edict, api.MaxRecipes), api.ErrForm},
		{[]api.Edict{edict(0, 0, a)}, api.OK}, {[]api.Edict{edict(api.MaxDay, api.MaxDay, a)}, api.OK}, {[]api.Edict{edict(5, 3, a), edict(3, 5, a)}, api.OK},
		{[]api.Edict{edict(-1, 0, a)}, api.ErrArg}, {[]api.Edict{edict(0, -1, a)}, api.ErrArg}, {[]api.Edict{edict(api.MaxDay+1, 0, a)}, api.ErrArg}, {[]api.Edict{edict(0, api.MaxDay+1, a)}, api.ErrArg}, {[]api.Edict{edict(math.MinInt, math.MaxInt, a)}, api.ErrArg},
		{[]api.Edict{edict(-1, -1, wrong)}, api.ErrForm}, {[]api.Edict{edict(0, 0, a), edict(1, 1, wrong)}, api.ErrForm},
		{[]api.Edict{edict(5, 3, a), edict(5, 3, numbered("a", 2))}, api.ErrTwice}, {[]api.Edict{edict(5, 3, a), edict(5, 4, a)}, api.OK}, {[]api.Edict{edict(5, 3, a), edict(4, 3, a)}, api.OK}, {[]api.Edict{edict(5, 3, a), edict(5, 3, numbered("b", 1))}, api.OK}, {[]api.Edict{edict(5, 3, a), edict(5, 4, a), edict(5, 3, a)}, api.ErrTwice},
		// All errors of an edict come ahead of those of the next one.
		{[]api.Edict{edict(5, 3, a), edict(5, 3, a), edict(-1, 0, a), edict(0, 0, wrong)}, api.ErrTwice}, {[]api.Edict{edict(-1, 0, a), edict(0, 0, wrong)}, api.ErrArg}, {[]api.Edict{edict(0, 0, wrong), edict(-1, 0, a)}, api.ErrForm}, {[]api.Edict{edict(-1, 0, a), edict(-1, 0, a)}, api.ErrArg}, {[]api.Edict{edict(5, 3, a), edict(5, 3, wrong)}, api.ErrForm},
	} {
		if e := recipe.CheckEdicts(x.l); e != x.want {
			t.Error("P6.9:", i, e)
		}
		r, e := recipe.InForce(x.l, "a", -1, 0)
		if want := max(x.want, api.ErrArg); e != want || !equalRecipes(r, api.Recipe{}) {
			t.Error("P6.9:", i, r, e)
		}
		if l, e := recipe.Judged(x.l, "a", api.Mortar{}, 0, -1); e != max(x.want, api.ErrArg) || len(l) != 0 {
			t.Error("P6.9:", i, l, e)
		}
	}
}

func TestInForce(t *testing.T) {
	// The recipe of each edict asks for an age that is ten times its From, and its Known.
	of := func(name string, from, known int) api.Edict {
		return edict(from, known, numbered(name, 10*from+known))
	}
	l := []api.Edict{of("a", 5, 3), of("b", 9, 1), of("a", 2, 8), of("a", 5, 7), of("a", 5, 5), of("a", 7, 6)}
	for _, x := range []struct {
		name       string
		day, known int
		want       int
		e          api.Errno
	}{
		{"a", 5, 3, 53, api.OK}, {"a", 5, 4, 53, api.OK}, {"a", 5, 5, 55, api.OK}, {"a", 6, 6, 55, api.OK}, {"a", 6, 7, 57, api.OK}, {"a", 6, api.MaxDay, 57, api.OK}, {"a", 7, 5, 55, api.OK}, {"a", 7, 6, 76, api.OK}, {"a", api.MaxDay, api.MaxDay, 76, api.OK},
		{"a", 4, 8, 28, api.OK}, {"a", 2, 8, 28, api.OK}, {"a", 2, 7, 0, api.ErrNone}, {"a", 1, 8, 0, api.ErrNone}, {"a", 5, 2, 0, api.ErrNone}, {"a", 0, 0, 0, api.ErrNone}, {"b", 9, 1, 91, api.OK}, {"b", 8, 682, 0, api.ErrNone}, {"b", 682, 0, 0, api.ErrNone}, {"b", 682, 682, 91, api.OK},
		{"c", 682, 682, 0, api.ErrNone}, {"", 682, 682, 0, api.ErrNone}, {"recipe", 682, 682, 0, api.ErrNone},
		{"a", -1, 5, 0, api.ErrArg}, {"a", 5, -1, 0, api.ErrArg}, {"a", 683, 5, 0, api.ErrArg}, {"a", 5, 683, 0, api.ErrArg}, {"c", 5, 683, 0, api.ErrArg}, {"a", math.MaxInt, math.MinInt, 0, api.ErrArg},
	} {
		want := api.Recipe{}
		if x.e == api.OK {
			want = numbered(x.name, x.want)
		}
		if r, e := recipe.InForce(l, x.name, x.day, x.known); !equalRecipes(r, want) || e != x.e {
			t.Error("P6.9:", x, r, e)
		}
		m := mortar(list(1), list(x.want))
		if broken, e := recipe.Judged(l, x.name, m, x.day, x.known); len(broken) != 0 || e != x.e {
			t.Error("P6.9:", x, broken, e)
		}
	}
}

func TestJudged(t *testing.T) {
	r := parsed(t, example)
	l := []api.Edict{edict(3, 4, r), edict(90, 95, named("fine", []string{"lime"}, share("lime", ratio(1, 1), ratio(1, 1), span(90, 97)), age("lime", 5, 5)))}
	for _, x := range []struct {
		m          api.Mortar
		day, known int
		want       []int
		e          api.Errno
	}{
		{mortar(list(40, 60, 0), list(7, 0, 0)), 5, 5, list(1, 3), api.OK}, {mortar(list(30, 60, 10), list(20, 0, 0)), 5, 5, nil, api.OK}, {mortar(list(0, 0, 1), list(20, 0, 0)), 99, 94, list(0, 2), api.OK}, {mortar(list(0, 0, 1), list(20, 0, 0)), 100, 94, list(0), api.OK},
		{mortar(list(1), list(4)), 91, 95, list(1), api.OK}, {mortar(list(1), list(5)), 98, 95, nil, api.OK},
		// The mortar must be one of the recipe in force.
		{mortar(list(40, 60, 0), list(7, 0, 0)), 91, 95, nil, api.ErrArg}, {mortar(list(1), list(4)), 91, 94, nil, api.ErrArg}, {mortar(list(0), list(4)), 91, 95, nil, api.ErrArg},
		{mortar(list(1), list(4)), 2, 95, nil, api.ErrNone}, {api.Mortar{}, 5, 3, nil, api.ErrNone}, {api.Mortar{}, 5, -1, nil, api.ErrArg},
	} {
		if broken, e := recipe.Judged(l, "fine", x.m, x.day, x.known); !slices.Equal(broken, x.want) || e != x.e {
			t.Error("P6.9:", x, broken, e)
		}
	}
}

// TestKnownLater: what is in force is found among all edicts, in whichever order they stand, and does not change with those that come to be known later.
func TestKnownLater(t *testing.T) {
	found := 0
	for seed := range uint64(1000) {
		c := chanceOf(seed)
		var l []api.Edict
		for range c.from(1, api.MaxRecipes) {
			x := edict(c.from(0, 6), c.from(0, 6), numbered([]string{"a", "b"}[c.IntN(2)], c.from(0, api.MaxRipe)))
			if recipe.CheckEdicts(append(slices.Clone(l), x)) == api.OK {
				l = append(l, x)
			}
		}
		day, known := c.from(0, 7), c.from(0, 7)
		var last *api.Edict
		for i, x := range l {
			if x.Recipe.Name == "a" && x.From <= day && x.Known <= known && (last == nil || x.From > last.From || x.From == last.From && x.Known > last.Known) {
				last = &l[i]
			}
		}
		r, e := recipe.InForce(l, "a", day, known)
		if last == nil && e != api.ErrNone || last != nil && (e != api.OK || !equalRecipes(r, last.Recipe)) {
			t.Fatal("P6.9:", l, day, known, r, e)
		}
		now := slices.DeleteFunc(slices.Clone(l), func(x api.Edict) bool { return x.Known > known })
		c.Shuffle(len(now), func(i, j int) { now[i], now[j] = now[j], now[i] })
		if again, e2 := recipe.InForce(now, "a", day, known); e2 != e || !equalRecipes(again, r) {
			t.Fatal("P6.15:", l, day, known, r, again)
		}
		if e == api.OK {
			found++
		}
	}
	if found < 300 {
		t.Error("too few in force:", found)
	}
}

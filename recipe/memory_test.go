package recipe_test

import (
	"slices"
	"testing"

	"calx/api"
	"calx/recipe"
)

// roomy returns a recipe with the same content, all lists of which have more behind their ends, and these lists with that.
func roomy(r api.Recipe) (api.Recipe, api.Recipe) {
	long := api.Recipe{Name: r.Name, Stuffs: append(slices.Clone(r.Stuffs), "behind")}
	for _, x := range r.Rules {
		x.Less = append(slices.Clone(x.Less), term(7, "behind"))
		x.More = append(slices.Clone(x.More), term(7, "behind"))
		x.Except = append(slices.Clone(x.Except), span(7, 7))
		long.Rules = append(long.Rules, x)
	}
	long.Rules = append(long.Rules, age("behind", 7, 7))
	short := api.Recipe{Name: r.Name, Stuffs: long.Stuffs[:len(r.Stuffs)], Rules: slices.Clone(long.Rules)[:len(r.Rules)]}
	for i, x := range r.Rules {
		short.Rules[i].Less = long.Rules[i].Less[:len(x.Less)]
		short.Rules[i].More = long.Rules[i].More[:len(x.More)]
		short.Rules[i].Except = long.Rules[i].Except[:len(x.Except)]
	}
	return short, long
}

// spoilRecipe makes all that a recipe tells another thing.
func spoilRecipe(r api.Recipe) {
	for i := range r.Stuffs {
		r.Stuffs[i] = "spoilt"
	}
	for i, x := range r.Rules {
		for k := range x.Less {
			x.Less[k] = api.Term{}
		}
		for k := range x.More {
			x.More[k] = api.Term{}
		}
		for k := range x.Except {
			x.Except[k] = api.Span{}
		}
		r.Rules[i] = api.Rule{}
	}
}

func spoilList(l []int) {
	l = l[:cap(l)]
	for i := range l {
		l[i] = -7
	}
}

func spoilMortar(m api.Mortar) {
	spoilList(m.Pounds)
	spoilList(m.Ages)
}

// useAll calls all functions of a recipe, spoils what they return, and does so once more.
func useAll(t *testing.T, r api.Recipe, m api.Mortar, rules []int) {
	t.Helper()
	for range 2 {
		for _, day := range []int{5, 110} {
			holding, e1 := recipe.Holding(r, day)
			broken, e2 := recipe.Broken(r, m, day)
			changes, e3 := recipe.Changes(r)
			if !slices.Equal(holding, holdingOn(r, day)) || !slices.Equal(broken, brokenOn(r, m, day)) || !slices.Equal(changes, list(100, 121)) || max(e1, e2, e3) != api.OK {
				t.Error("R6:", holding, broken, changes)
			}
			idle, e1 := recipe.Idle(r, day)
			conflict, e2 := recipe.Conflict(r, day)
			made, e3 := recipe.Make(r, 5)
			if e4 := recipe.CheckConflict(r, day, rules); !slices.Equal(idle, idleOn(r, day)) || e1 != api.OK || e2 != api.ErrNone || e3 != api.OK || e4 != api.ErrProof {
				t.Error("R6:", idle, conflict, made)
			}
			blend, e1 := recipe.Blend(r, m, made)
			shares, e2 := recipe.Shares(r, m)
			corners, e3 := recipe.Corners(r, day)
			if max(e1, e2, e3) != api.OK || !slices.Equal(blend.Pounds, list(45, 73, 2)) || !slices.Equal(blend.Ages, list(7, 0, 0)) || !slices.Equal(shares, row(ratio(2, 5), ratio(3, 5), ratio(0, 1))) {
				t.Error("R6:", blend, shares)
			}
			checkApart(t, corners)
			spoilMortar(blend)
			spoilMortar(made)
			other, is, e := recipe.Within(with(r, age("ash", 1, 9)), with(r, age("ash", 2, 9)), day)
			if is || e != api.OK {
				t.Error("R6:", other, is, e)
			}
			spoilMortar(other)
			for _, l := range [][]int{holding, broken, changes, idle, conflict} {
				spoilList(l)
			}
			for i := range shares {
				shares[i] = api.Ratio{}
			}
		}
	}
}

// checkApart checks that corners share no memory.
func checkApart(t *testing.T, corners [][]api.Ratio) {
	t.Helper()
	for i, l := range corners {
		kept := slices.Clone(corners[(i+1)%len(corners)])
		l = append(l, api.Ratio{Num: -7})
		l = l[:cap(l)]
		clear(l)
		clear(corners[i])
		if !slices.Equal(corners[(i+1)%len(corners)], kept) {
			t.Error("R6: corners share memory:", corners)
		}
	}
}

// TestMemory: arguments stay as they are, also behind their ends; results share no memory.
func TestMemory(t *testing.T) {
	short, long := roomy(parsed(t, example))
	kept := cloneRecipe(long)
	pounds, ages, rules := list(40, 60, 0, 77), list(7, 3, 0, 77), list(0, 1, 3, 77)
	useAll(t, short, mortar(pounds[:3], ages[:3]), rules[:3])
	for range 2 {
		if text, e := recipe.Print([]api.Recipe{short}); text != example || e != api.OK {
			t.Error("R6:", text, e)
		}
		l, _, _ := recipe.Parse(example + "recipe other of lime{lime at most lime except days 1 to 2;}")
		spoilRecipe(l[0])
		if len(l) != 2 || !equalRecipes(l[1], named("other", []string{"lime"}, atMost(terms(term(1, "lime")), terms(term(1, "lime")), span(1, 2)))) {
			t.Error("R6:", l)
		}
		edicts := []api.Edict{edict(1, 1, short), edict(2, 2, numbered("other", 2))}
		r, e := recipe.InForce(edicts[:1], "fine", 5, 5)
		if !equalRecipes(r, short) || e != api.OK || !equalRecipes(edicts[1].Recipe, numbered("other", 2)) {
			t.Error("R6:", r, e)
		}
		for i, x := range r.Rules {
			r.Rules[i].Less = append(x.Less, api.Term{})
			r.Rules[i].More = append(x.More, api.Term{})
			r.Rules[i].Except = append(x.Except, api.Span{})
		}
		r.Stuffs = append(r.Stuffs, "spoilt")
		r.Rules = append(r.Rules, api.Rule{})
		spoilRecipe(r)
		if broken, e := recipe.Judged(edicts, "fine", mortar(pounds[:3], ages[:3]), 5, 5); !slices.Equal(broken, list(1, 3)) || e != api.OK {
			t.Error("R6:", broken, e)
		}
	}
	if !equalRecipes(long, kept) || !equalRecipes(short, parsed(t, example)) {
		t.Error("R6: an argument is changed:", long, short)
	}
	if !slices.Equal(pounds, list(40, 60, 0, 77)) || !slices.Equal(ages, list(7, 3, 0, 77)) || !slices.Equal(rules, list(0, 1, 3, 77)) {
		t.Error("R6: an argument is changed:", pounds, ages, rules)
	}
}

// greatest returns a recipe with as many rules, materials and exceptions as there can be, all of which hold on the day 0.
func greatest(c chance) api.Recipe {
	r := c.recipe("greatest", api.MaxStuffs, api.MaxRules, api.MaxPart, api.MaxFactor)
	for i := range r.Rules {
		r.Rules[i].Except = []api.Span{span(1+i, 20), span(22, 100+i), span(300, 300+i), span(682-i, 682)}
		if r.Rules[i].Kind == api.RuShare && c.IntN(4) > 0 {
			r.Rules[i].Lo, r.Rules[i].Hi = ratio(0, 1), ratio(59, 60)
		}
		if r.Rules[i].Kind == api.RuAge {
			r.Rules[i].From, r.Rules[i].To = c.from(0, 500), c.from(500, 1000)
		}
	}
	return r
}

// TestGreatest: the greatest recipes are answered alike each time.
func TestGreatest(t *testing.T) {
	for seed := range uint64(12) {
		r := greatest(chanceOf(seed))
		if e := recipe.Check(r); e != api.OK {
			t.Fatal("P6.1:", r, e)
		}
		x, idle := regionOf(r, holdingOn(r, 0)), idleOn(r, 0)
		var conflict []int
		if x.isEmpty() {
			conflict = left(r, holdingOn(r, 0))
		}
		for range 3 {
			if l, e := recipe.Corners(r, 0); !equalCorners(l, x.told()) || e != api.OK {
				t.Error("P6.4:", r, l, e)
			}
			if l, e := recipe.Conflict(r, 0); !slices.Equal(l, conflict) || x.isEmpty() != (e == api.OK) || !x.isEmpty() && e != api.ErrNone {
				t.Error("P6.6:", r, l, e)
			}
			if l, e := recipe.Idle(r, 0); !slices.Equal(l, idle) || e != api.OK {
				t.Error("P6.6:", r, l, e)
			}
		}
	}
}

// TestPrintAgain: what is printed is read again as the same recipes, as long as a source can be.
func TestPrintAgain(t *testing.T) {
	read := 0
	for seed := range uint64(500) {
		c := chanceOf(seed)
		var l []api.Recipe
		for i := range c.from(1, 4) {
			l = append(l, c.any(string(rune('a'+i))))
		}
		text, e := recipe.Print(l)
		if e != api.OK {
			t.Fatal("P6.1:", l, e)
		}
		got, e, at := recipe.Parse(text)
		if len(text) > api.MaxRecipeIn {
			if e != api.ErrLimit || at != 0 {
				t.Fatal("P6.1:", text, e, at)
			}
			continue
		}
		read++
		if !slices.EqualFunc(got, l, equalRecipes) || e != api.OK || at != 0 {
			t.Fatal("P6.10:", text, got, e, at)
		}
	}
	if read < 200 {
		t.Error("too few that can be read:", read)
	}
}

package recipe_test

import (
	"math/rand/v2"
	"slices"
	"testing"

	"calx/api"
	"calx/recipe"
)

// example is the source of the chapter's example.
const example = `recipe fine of lime and sand and ash {
 lime from 1/4 to 1/2;
 2 lime at most sand + ash;
 ash from 0 to 1/10 except days 100 to 120;
 age lime from 14 to 60;
}
`

// parsed returns the only recipe of a source, which must be right.
func parsed(t *testing.T, source string) api.Recipe {
	t.Helper()
	l, e, at := recipe.Parse(source)
	if len(l) != 1 || e != api.OK || at != 0 {
		t.Fatal("P6.1:", source, l, e, at)
	}
	return l[0]
}

// ruled returns a recipe of materials with rules, all of them told as in a source.
func ruled(t *testing.T, stuffs, rules string) api.Recipe {
	t.Helper()
	return parsed(t, "recipe some of "+stuffs+"{"+rules+"}")
}

func span(lo, hi int) api.Span { return api.Span{Lo: lo, Hi: hi} }

func ratio(num, den int) api.Ratio { return api.Ratio{Num: num, Den: den} }

func term(factor int, stuff string) api.Term { return api.Term{Factor: factor, Stuff: stuff} }

func terms(l ...api.Term) []api.Term { return l }

func share(stuff string, lo, hi api.Ratio, except ...api.Span) api.Rule {
	return api.Rule{Kind: api.RuShare, Stuff: stuff, Lo: lo, Hi: hi, Except: except}
}

func atMost(less, more []api.Term, except ...api.Span) api.Rule {
	return api.Rule{Kind: api.RuCompare, Less: less, More: more, Except: except}
}

func age(stuff string, from, to int, except ...api.Span) api.Rule {
	return api.Rule{Kind: api.RuAge, Stuff: stuff, From: from, To: to, Except: except}
}

func named(name string, stuffs []string, rules ...api.Rule) api.Recipe {
	return api.Recipe{Name: name, Stuffs: stuffs, Rules: rules}
}

func mortar(pounds, ages []int) api.Mortar { return api.Mortar{Pounds: pounds, Ages: ages} }

func list(l ...int) []int { return l }

func equalRules(a, b api.Rule) bool {
	return a.Kind == b.Kind && a.Stuff == b.Stuff && a.Lo == b.Lo && a.Hi == b.Hi && a.From == b.From && a.To == b.To &&
		slices.Equal(a.Less, b.Less) && slices.Equal(a.More, b.More) && slices.Equal(a.Except, b.Except)
}

func equalRecipes(a, b api.Recipe) bool {
	return a.Name == b.Name && slices.Equal(a.Stuffs, b.Stuffs) && slices.EqualFunc(a.Rules, b.Rules, equalRules)
}

func equalMortars(a, b api.Mortar) bool {
	return slices.Equal(a.Pounds, b.Pounds) && slices.Equal(a.Ages, b.Ages)
}

func isNoMortar(m api.Mortar) bool { return len(m.Pounds) == 0 && len(m.Ages) == 0 }

func equalCorners(a, b [][]api.Ratio) bool {
	return slices.EqualFunc(a, b, func(a, b []api.Ratio) bool { return slices.Equal(a, b) })
}

func cloneRecipe(r api.Recipe) api.Recipe {
	r.Stuffs = slices.Clone(r.Stuffs)
	r.Rules = slices.Clone(r.Rules)
	for i, x := range r.Rules {
		r.Rules[i].Less = slices.Clone(x.Less)
		r.Rules[i].More = slices.Clone(x.More)
		r.Rules[i].Except = slices.Clone(x.Except)
	}
	return r
}

func cloneMortar(m api.Mortar) api.Mortar {
	return mortar(slices.Clone(m.Pounds), slices.Clone(m.Ages))
}

// with returns a recipe with further rules.
func with(r api.Recipe, rules ...api.Rule) api.Recipe {
	r.Rules = slices.Concat(r.Rules, rules)
	return r
}

// only returns a recipe with the rules with some indices.
func only(r api.Recipe, rules []int) api.Recipe {
	l := r.Rules
	r.Rules = nil
	for _, i := range rules {
		r.Rules = append(r.Rules, l[i])
	}
	return r
}

// less returns a list without a number.
func less(l []int, n int) []int {
	return slices.DeleteFunc(slices.Clone(l), func(x int) bool { return x == n })
}

// chance makes recipes and mortars at random.
type chance struct{ *rand.Rand }

func chanceOf(seed uint64) chance { return chance{rand.New(rand.NewPCG(seed, 6))} }

// from returns a number from lo to hi.
func (c chance) from(lo, hi int) int { return lo + c.IntN(hi-lo+1) }

// part returns a fraction in lowest terms with a denominator of at most den.
func (c chance) part(den int) api.Ratio {
	d := c.from(1, den)
	n := c.from(0, d)
	for k := d; k > 1; k-- {
		if n%k == 0 && d%k == 0 {
			n, d = n/k, d/k
		}
	}
	return ratio(n, d)
}

func (c chance) share(stuffs []string, den int) api.Rule {
	lo, hi := c.part(den), c.part(den)
	if lo.Num*hi.Den > hi.Num*lo.Den {
		lo, hi = hi, lo
	}
	switch c.IntN(4) {
	case 0:
		lo = ratio(0, 1)
	case 1:
		hi = ratio(1, 1)
	}
	return share(stuffs[c.IntN(len(stuffs))], lo, hi)
}

func (c chance) sum(stuffs []string, factor int) []api.Term {
	var l []api.Term
	for _, i := range c.Perm(len(stuffs))[:c.from(1, len(stuffs))] {
		l = append(l, term(c.from(1, factor), stuffs[i]))
	}
	return l
}

func (c chance) age(stuffs []string) api.Rule {
	from := c.from(0, 30)
	return age(stuffs[c.IntN(len(stuffs))], from, from+c.from(0, 40))
}

// except returns exceptions that begin, and end, near the day 10 for the most part.
func (c chance) except() []api.Span {
	var l []api.Span
	for day := c.from(0, 20); len(l) < api.MaxExcept && c.IntN(3) > 0; day += 2 + c.IntN(9) {
		s := span(day, day+c.IntN(9))
		l = append(l, s)
		day = s.Hi
	}
	return l
}

func allStuffs() []string { return []string{"lime", "sand", "ash", "brick"} }

// recipe returns a recipe of some materials with some rules, with denominators and factors up to bounds.
func (c chance) recipe(name string, stuffs, rules, den, factor int) api.Recipe {
	r := named(name, allStuffs()[:stuffs])
	for range rules {
		var x api.Rule
		switch c.IntN(5) {
		case 0, 1:
			x = c.share(r.Stuffs, den)
		case 2, 3:
			x = atMost(c.sum(r.Stuffs, factor), c.sum(r.Stuffs, factor))
		case 4:
			x = c.age(r.Stuffs)
		}
		x.Except = c.except()
		r.Rules = append(r.Rules, x)
	}
	return r
}

// any returns a recipe of any sort: with few rules or with many, with small numbers or with great ones.
func (c chance) any(name string) api.Recipe {
	den, factor := 6, 3
	if c.IntN(3) == 0 {
		den, factor = api.MaxPart, api.MaxFactor
	}
	return c.recipe(name, c.from(1, api.MaxStuffs), c.IntN(c.from(1, api.MaxRules)+1), den, factor)
}

// mortar returns a mortar with pounds and ages up to bounds.
func (c chance) mortar(stuffs, pounds, ages int) api.Mortar {
	m := mortar(make([]int, stuffs), make([]int, stuffs))
	for i := range stuffs {
		m.Pounds[i] = c.from(0, pounds)
		m.Ages[i] = c.from(0, ages)
	}
	if slices.Max(m.Pounds) == 0 {
		m.Pounds[c.IntN(stuffs)] = 1
	}
	return m
}

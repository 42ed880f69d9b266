// Package recipe is layer 6: a language of recipes, what mortars keep them, and which ones are in force (shared/doc/06-recipe.md).
package recipe

import (
	"slices"

	"calx/api"
)

// Check returns ErrForm unless a recipe is formed.
func Check(r api.Recipe) api.Errno {
	if !isFormed(r) {
		return api.ErrForm
	}
	return api.OK
}

// CheckMortar returns ErrArg unless a mortar is one of the recipe.
func CheckMortar(r api.Recipe, m api.Mortar) api.Errno {
	if e := Check(r); e != api.OK {
		return e
	}
	if !isMortar(r, m) {
		return api.ErrArg
	}
	return api.OK
}

// checkDay returns the error of a recipe, or ErrArg unless a day is one.
func checkDay(r api.Recipe, day int) api.Errno {
	if e := Check(r); e != api.OK {
		return e
	}
	if !isDay(day) {
		return api.ErrArg
	}
	return api.OK
}

// checkStuff returns the error of a recipe and of a day, or ErrNone unless the recipe has a material.
func checkStuff(r api.Recipe, day int, stuff string) api.Errno {
	if e := checkDay(r, day); e != api.OK {
		return e
	}
	if !slices.Contains(r.Stuffs, stuff) {
		return api.ErrNone
	}
	return api.OK
}

// stuffs is where each material stands in the list of a recipe.
type stuffs map[string]int

func stuffsOf(r api.Recipe) stuffs {
	at := stuffs{}
	for i, stuff := range r.Stuffs {
		at[stuff] = i
	}
	return at
}

func (at stuffs) has(stuff string) bool {
	_, ok := at[stuff]
	return ok
}

func isFormed(r api.Recipe) bool {
	if !isName(r.Name) || !isWithin(len(r.Stuffs), 1, api.MaxStuffs) || len(r.Rules) > api.MaxRules {
		return false
	}
	at := stuffsOf(r)
	return len(at) == len(r.Stuffs) && all(r.Stuffs, isName) && all(r.Rules, at.isRule)
}

func (at stuffs) isRule(x api.Rule) bool {
	noFracs := x.Lo == (api.Ratio{}) && x.Hi == (api.Ratio{})
	noSums := len(x.Less) == 0 && len(x.More) == 0
	noAges := x.From == 0 && x.To == 0
	switch x.Kind {
	case api.RuShare:
		return at.has(x.Stuff) && areEnds(x.Lo, x.Hi) && noSums && noAges && areExcept(x.Except)
	case api.RuCompare:
		return x.Stuff == "" && noFracs && at.isSum(x.Less) && at.isSum(x.More) && noAges && areExcept(x.Except)
	case api.RuAge:
		ages := api.Span{Lo: x.From, Hi: x.To}
		return at.has(x.Stuff) && noFracs && noSums && isSpan(ages, api.MaxRipe) && areExcept(x.Except)
	}
	return false
}

// areEnds reports whether a share can be from one fraction to another one.
func areEnds(lo, hi api.Ratio) bool {
	return isPart(lo) && isPart(hi) && compare(lo, hi) <= 0
}

// isPart reports whether a fraction is one of a rule: in lowest terms, and from 0 to 1.
func isPart(r api.Ratio) bool {
	return isWithin(r.Den, 1, api.MaxPart) && isWithin(r.Num, 0, r.Den) && divisor(r.Num, r.Den) == 1
}

func (at stuffs) isSum(l []api.Term) bool {
	if !isWithin(len(l), 1, api.MaxStuffs) {
		return false
	}
	seen := map[string]bool{}
	for _, t := range l {
		if !isWithin(t.Factor, 1, api.MaxFactor) || !at.has(t.Stuff) || seen[t.Stuff] {
			return false
		}
		seen[t.Stuff] = true
	}
	return true
}

// areExcept reports whether a rule can have exceptions: there is a day between each two of them.
func areExcept(l []api.Span) bool {
	if len(l) > api.MaxExcept {
		return false
	}
	for i, s := range l {
		if !isSpan(s, api.MaxDay) || i > 0 && s.Lo < l[i-1].Hi+2 {
			return false
		}
	}
	return true
}

func isMortar(r api.Recipe, m api.Mortar) bool {
	n := len(r.Stuffs)
	return len(m.Pounds) == n && len(m.Ages) == n &&
		all(m.Pounds, isPounds) && all(m.Ages, isAge) && slices.Max(m.Pounds) > 0
}

func isPounds(n int) bool { return isWithin(n, 0, api.MaxPounds) }

func isAge(n int) bool { return isWithin(n, 0, api.MaxRipe) }

func isDay(day int) bool { return isWithin(day, 0, api.MaxDay) }

// isSpan reports whether a span is one, from 0 at least to a number at most.
func isSpan(s api.Span, most int) bool { return 0 <= s.Lo && s.Lo <= s.Hi && s.Hi <= most }

func isWithin(n, least, most int) bool { return least <= n && n <= most }

// all reports whether something is so of each element of a list.
func all[T any](l []T, isSo func(T) bool) bool {
	return !slices.ContainsFunc(l, func(x T) bool { return !isSo(x) })
}

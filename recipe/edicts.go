package recipe

import (
	"cmp"
	"iter"
	"slices"

	"calx/api"
)

// CheckEdicts returns the first error of edicts.
func CheckEdicts(l []api.Edict) api.Errno {
	if len(l) > api.MaxRecipes {
		return api.ErrLimit
	}
	for i, x := range l {
		isLike := func(y api.Edict) bool { return y.Recipe.Name == x.Recipe.Name && inOrder(x, y) == 0 }
		switch {
		case !isFormed(x.Recipe):
			return api.ErrForm
		case !isDay(x.From) || !isDay(x.Known):
			return api.ErrArg
		case slices.ContainsFunc(l[:i], isLike):
			return api.ErrTwice
		}
	}
	return api.OK
}

// inOrder holds two edicts with one name against each other: of several that could be in force, the greatest one is.
func inOrder(a, b api.Edict) int {
	return cmp.Or(cmp.Compare(a.From, b.From), cmp.Compare(a.Known, b.Known))
}

// InForce returns the recipe with a name that is in force on a day, as far as is known on another one.
func InForce(l []api.Edict, name string, day, known int) (api.Recipe, api.Errno) {
	if e := CheckEdicts(l); e != api.OK {
		return api.Recipe{}, e
	}
	if !isDay(day) || !isDay(known) {
		return api.Recipe{}, api.ErrArg
	}
	_, last, ok := ends(candidates(l, name, day, known), inOrder)
	if !ok {
		return api.Recipe{}, api.ErrNone
	}
	return clone(last.Recipe), api.OK
}

// candidates yields the edicts with a name that begin to hold, and to be known, no later than on some days.
func candidates(l []api.Edict, name string, day, known int) iter.Seq[api.Edict] {
	return func(yield func(api.Edict) bool) {
		for _, x := range l {
			if x.Recipe.Name == name && x.From <= day && x.Known <= known && !yield(x) {
				return
			}
		}
	}
}

// clone returns a recipe that shares no memory with another one.
func clone(r api.Recipe) api.Recipe {
	r.Stuffs = slices.Clone(r.Stuffs)
	r.Rules = slices.Clone(r.Rules)
	for i, x := range r.Rules {
		r.Rules[i].Less = slices.Clone(x.Less)
		r.Rules[i].More = slices.Clone(x.More)
		r.Rules[i].Except = slices.Clone(x.Except)
	}
	return r
}

// Judged returns the rules that a mortar breaks by the recipe in force.
func Judged(l []api.Edict, name string, m api.Mortar, day, known int) ([]int, api.Errno) {
	r, e := InForce(l, name, day, known)
	if e != api.OK {
		return nil, e
	}
	return Broken(r, m, day)
}

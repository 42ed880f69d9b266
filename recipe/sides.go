package recipe

import (
	"slices"

	"calx/api"
)

// side is a number for each material (0 for those that a recipe lacks). Pounds are on a side if their sum, each times its number, is at least 0, and at its end if it is 0. It does not matter how many pounds there are in all, so a side speaks of shares, too.
type side [api.MaxStuffs]int

// sum returns the sum of pounds, each times its number.
func (s side) sum(pounds []int) int {
	n := 0
	for i, p := range pounds {
		n += s[i] * p
	}
	return n
}

func (s side) opposite() side {
	for i := range s {
		s[i] = -s[i]
	}
	return s
}

// alone returns the side on which there is no less of a material than nothing.
func alone(i int) side {
	var s side
	s[i] = 1
	return s
}

// sides returns on which sides the pounds are of mortars that keep a rule.
func (at stuffs) sides(x api.Rule) []side {
	switch x.Kind {
	case api.RuShare:
		return []side{at.fromShare(x.Stuff, x.Lo), at.fromShare(x.Stuff, x.Hi).opposite()}
	case api.RuCompare:
		return []side{at.fromLess(x.Less, x.More)}
	}
	return nil
}

// fromShare returns the side on which the share of a material is at least a fraction.
func (at stuffs) fromShare(stuff string, least api.Ratio) side {
	var s side
	for _, i := range at {
		s[i] = -least.Num
	}
	s[at[stuff]] += least.Den
	return s
}

// fromLess returns the side on which one sum is at most another one.
func (at stuffs) fromLess(less, more []api.Term) side {
	var s side
	for _, t := range less {
		s[at[t.Stuff]] -= t.Factor
	}
	for _, t := range more {
		s[at[t.Stuff]] += t.Factor
	}
	return s
}

// keeps returns what tells whether a mortar keeps a rule.
func (at stuffs) keeps(x api.Rule) func(api.Mortar) bool {
	if x.Kind == api.RuAge {
		i := at[x.Stuff]
		return func(m api.Mortar) bool { return isWithin(m.Ages[i], x.From, x.To) }
	}
	sides := at.sides(x)
	return func(m api.Mortar) bool {
		return all(sides, func(s side) bool { return s.sum(m.Pounds) >= 0 })
	}
}

// isHolding reports whether a rule holds on a day.
func isHolding(x api.Rule, day int) bool {
	return !slices.ContainsFunc(x.Except, func(s api.Span) bool { return isWithin(day, s.Lo, s.Hi) })
}

// holding returns the indices of the rules that hold on a day.
func holding(r api.Recipe, day int) []int {
	var l []int
	for i, x := range r.Rules {
		if isHolding(x, day) {
			l = append(l, i)
		}
	}
	return l
}

// broken returns the indices of the rules that hold on a day, and that a mortar does not keep.
func broken(r api.Recipe, m api.Mortar, day int) []int {
	at := stuffsOf(r)
	return slices.DeleteFunc(holding(r, day), func(i int) bool { return at.keeps(r.Rules[i])(m) })
}

package recipe

import (
	"slices"

	"calx/api"
)

// Conflict returns rules that cannot all be kept on a day.
func Conflict(r api.Recipe, day int) ([]int, api.Errno) {
	if e := checkDay(r, day); e != api.OK {
		return nil, e
	}
	rules := holding(r, day)
	if !roomOf(r, rules).isEmpty() {
		return nil, api.ErrNone
	}
	for _, i := range holding(r, day) {
		if left := without(rules, i); roomOf(r, left).isEmpty() {
			rules = left
		}
	}
	return rules, api.OK
}

// without returns some rules without one.
func without(rules []int, rule int) []int {
	return slices.DeleteFunc(slices.Clone(rules), func(i int) bool { return i == rule })
}

// CheckConflict returns OK if rules cannot all be kept on a day.
func CheckConflict(r api.Recipe, day int, rules []int) api.Errno {
	if e := checkDay(r, day); e != api.OK {
		return e
	}
	if !isPartOf(rules, holding(r, day)) {
		return api.ErrArg
	}
	if !roomOf(r, rules).isEmpty() {
		return api.ErrProof
	}
	return api.OK
}

// isPartOf reports whether indices are some of others, in increasing order.
func isPartOf(rules, others []int) bool {
	for i, rule := range rules {
		if !slices.Contains(others, rule) || i > 0 && rule <= rules[i-1] {
			return false
		}
	}
	return true
}

// Idle returns the rules without each of which alone the same mortars keep a recipe on a day.
func Idle(r api.Recipe, day int) ([]int, api.Errno) {
	if e := checkDay(r, day); e != api.OK {
		return nil, e
	}
	rules := holding(r, day)
	return slices.DeleteFunc(holding(r, day), func(i int) bool {
		_, ok := breaking(roomOf(r, without(rules, i)), stuffsOf(r).keeps(r.Rules[i]))
		return ok
	}), api.OK
}

// Within returns a mortar that keeps one recipe and not another one on a day; or true if there is none.
func Within(a, b api.Recipe, day int) (api.Mortar, bool, api.Errno) {
	if e := Check(a); e != api.OK {
		return api.Mortar{}, false, e
	}
	if e := checkDay(b, day); e != api.OK {
		return api.Mortar{}, false, e
	}
	if !slices.Equal(a.Stuffs, b.Stuffs) {
		return api.Mortar{}, false, api.ErrArg
	}
	m, ok := breaking(roomOn(a, day), func(m api.Mortar) bool { return len(broken(b, m, day)) == 0 })
	return m, !ok, api.OK
}

// breaking returns a mortar in a room that does not keep something, or false if all mortars in it do.
func breaking(x room, keeps func(api.Mortar) bool) (api.Mortar, bool) {
	for m := range x.extremes() {
		if !keeps(m) {
			return m, true
		}
	}
	return api.Mortar{}, false
}

package recipe

import (
	"iter"
	"slices"

	"calx/api"
)

// room is what some rules leave to mortars: the sides on which their pounds are, and from which to which age each material is (where the first one is greater than the second one, there is none).
type room struct {
	sides []side
	ages  []api.Span
}

// roomOf returns what the rules of a recipe with some indices leave.
func roomOf(r api.Recipe, rules []int) room {
	at := stuffsOf(r)
	x := room{sides: bounds(len(r.Stuffs)), ages: slices.Repeat([]api.Span{{Lo: 0, Hi: api.MaxRipe}}, len(r.Stuffs))}
	for _, i := range rules {
		rule := r.Rules[i]
		x.sides = append(x.sides, at.sides(rule)...)
		if rule.Kind == api.RuAge {
			ages := &x.ages[at[rule.Stuff]]
			ages.Lo = max(ages.Lo, rule.From)
			ages.Hi = min(ages.Hi, rule.To)
		}
	}
	return x
}

// roomOn returns what the rules that hold on a day leave.
func roomOn(r api.Recipe, day int) room { return roomOf(r, holding(r, day)) }

// bounds returns the sides of all pounds of n materials: of each there is nothing or more, and of the further ones nothing. So corners are where three sides meet, however many materials there are.
func bounds(n int) []side {
	var l []side
	for i := range api.MaxStuffs {
		l = append(l, alone(i))
		if i >= n {
			l = append(l, alone(i).opposite())
		}
	}
	return l
}

// shares returns the shares of all corners.
func (x room) shares() [][]api.Ratio {
	var l [][]api.Ratio
	for _, c := range corners(x.sides) {
		l = append(l, sharesOf(c[:len(x.ages)]))
	}
	return l
}

// isEmpty reports whether no mortar is in the room.
func (x room) isEmpty() bool {
	for range reached(x.sides) {
		return !x.hasAges()
	}
	return true
}

func (x room) hasAges() bool {
	return all(x.ages, func(s api.Span) bool { return s.Lo <= s.Hi })
}

// extremes yields mortars in the room such that a rule that all of them keep is kept by all in it: where all corners are on a side, all that lies between them is, too, and each age lies between the least and the greatest one. The first one is what Make returns.
func (x room) extremes() iter.Seq[api.Mortar] {
	return func(yield func(api.Mortar) bool) {
		if !x.hasAges() {
			return
		}
		found := corners(x.sides)
		for _, c := range found {
			if !yield(x.mortar(c, func(s api.Span) int { return s.Lo })) {
				return
			}
		}
		if len(found) > 0 {
			yield(x.mortar(found[0], func(s api.Span) int { return s.Hi }))
		}
	}
}

// mortar returns the mortar that has the pounds of a corner, and an age out of each span.
func (x room) mortar(c corner, age func(api.Span) int) api.Mortar {
	m := api.Mortar{Pounds: slices.Clone(c[:len(x.ages)])}
	for _, s := range x.ages {
		m.Ages = append(m.Ages, age(s))
	}
	return m
}

// Make returns a mortar that keeps a recipe on a day.
func Make(r api.Recipe, day int) (api.Mortar, api.Errno) {
	if e := checkDay(r, day); e != api.OK {
		return api.Mortar{}, e
	}
	for m := range roomOn(r, day).extremes() {
		return m, api.OK
	}
	return api.Mortar{}, api.ErrClash
}

// Corners returns the corners of all shares that keep a recipe on a day.
func Corners(r api.Recipe, day int) ([][]api.Ratio, api.Errno) {
	if e := checkDay(r, day); e != api.OK {
		return nil, e
	}
	return roomOn(r, day).shares(), api.OK
}

// Ends returns the least and the greatest share of a material.
func Ends(r api.Recipe, day int, stuff string) (api.Ratio, api.Ratio, api.Errno) {
	if e := checkStuff(r, day, stuff); e != api.OK {
		return api.Ratio{}, api.Ratio{}, e
	}
	i := stuffsOf(r)[stuff]
	shares := func(yield func(api.Ratio) bool) {
		for _, l := range roomOn(r, day).shares() {
			if !yield(l[i]) {
				return
			}
		}
	}
	least, greatest, ok := ends(shares, compare)
	if !ok {
		return api.Ratio{}, api.Ratio{}, api.ErrClash
	}
	return least, greatest, api.OK
}

// Ages returns between which ends the age of a material lies.
func Ages(r api.Recipe, day int, stuff string) (api.Span, api.Errno) {
	if e := checkStuff(r, day, stuff); e != api.OK {
		return api.Span{}, e
	}
	ages := roomOn(r, day).ages[stuffsOf(r)[stuff]]
	if ages.Lo > ages.Hi {
		return api.Span{}, api.ErrClash
	}
	return ages, api.OK
}

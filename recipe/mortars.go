package recipe

import (
	"slices"

	"calx/api"
)

// Holding returns the rules that hold on a day.
func Holding(r api.Recipe, day int) ([]int, api.Errno) {
	if e := checkDay(r, day); e != api.OK {
		return nil, e
	}
	return holding(r, day), api.OK
}

// Broken returns the rules that hold on a day, and that a mortar does not keep.
func Broken(r api.Recipe, m api.Mortar, day int) ([]int, api.Errno) {
	if e := CheckMortar(r, m); e != api.OK {
		return nil, e
	}
	if !isDay(day) {
		return nil, api.ErrArg
	}
	return broken(r, m, day), api.OK
}

// Shares returns the shares of a mortar.
func Shares(r api.Recipe, m api.Mortar) ([]api.Ratio, api.Errno) {
	if e := CheckMortar(r, m); e != api.OK {
		return nil, e
	}
	return sharesOf(m.Pounds), api.OK
}

// sharesOf returns the shares of pounds that are not all 0.
func sharesOf(pounds []int) []api.Ratio {
	whole := 0
	for _, n := range pounds {
		whole += n
	}
	var l []api.Ratio
	for _, n := range pounds {
		l = append(l, ratio(n, whole))
	}
	return l
}

// Blend returns the mortar that two mortars are together.
func Blend(r api.Recipe, a, b api.Mortar) (api.Mortar, api.Errno) {
	if e := CheckMortar(r, a); e != api.OK {
		return api.Mortar{}, e
	}
	if e := CheckMortar(r, b); e != api.OK {
		return api.Mortar{}, e
	}
	var m api.Mortar
	for i := range r.Stuffs {
		m.Pounds = append(m.Pounds, a.Pounds[i]+b.Pounds[i])
		m.Ages = append(m.Ages, blendedAge(a, b, i))
	}
	if !all(m.Pounds, isPounds) {
		return api.Mortar{}, api.ErrRange
	}
	return m, api.OK
}

// blendedAge returns the age of a material of two mortars together. Where one of them alone has any of it, the age of the other one says nothing.
func blendedAge(a, b api.Mortar, i int) int {
	switch {
	case a.Pounds[i] > 0 && b.Pounds[i] == 0:
		return a.Ages[i]
	case a.Pounds[i] == 0 && b.Pounds[i] > 0:
		return b.Ages[i]
	}
	return min(a.Ages[i], b.Ages[i])
}

// Changes returns the days on which other rules hold than on the day before.
func Changes(r api.Recipe) ([]int, api.Errno) {
	if e := Check(r); e != api.OK {
		return nil, e
	}
	var l []int
	for day := 1; day <= api.MaxDay; day++ {
		if !slices.Equal(holding(r, day), holding(r, day-1)) {
			l = append(l, day)
		}
	}
	return l, api.OK
}

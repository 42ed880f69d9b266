package tally

import "calx/api"

// Value returns what a tally is worth at least and at most.
func Value(b api.Bundle, id int) (api.Span, api.Errno) {
	x, e := checkTally(b, id)
	if e != api.OK {
		return api.Span{}, e
	}
	return api.Span{Lo: worthOf(b, x, 0), Hi: worthOf(b, x, api.MaxNotch)}, api.OK
}

// worthOf returns what a tally is worth if each worn notch is some number.
func worthOf(b api.Bundle, x api.Tally, worn int) int {
	sum := 0
	for i, n := range x.Notches {
		if n == api.WornNotch {
			n = worn
		}
		sum += n * b.Worths[i]
	}
	return sum
}

// Cost returns the cost of a pair.
func Cost(b api.Bundle, stock, foil int) (int, api.Errno) {
	x, y, e := checkBoth(b, stock, foil)
	if e != api.OK {
		return 0, e
	}
	return costOf(b, x, y), api.OK
}

func costOf(b api.Bundle, stock, foil api.Tally) int {
	sum := 0
	for i, n := range stock.Notches {
		switch {
		case n == api.WornNotch || foil.Notches[i] == api.WornNotch:
			sum += b.Worn
		case n != foil.Notches[i]:
			sum += b.Wrong
		}
	}
	return sum
}

// Total returns the cost of a way.
func Total(b api.Bundle, given []int) (int, api.Errno) {
	if e := Check(b); e != api.OK {
		return 0, e
	}
	w, ok := wayOf(b, given)
	if !ok {
		return 0, api.ErrArg
	}
	return tableOf(b).total(w), api.OK
}

// Mended returns the notches of a stock, those that are worn from a foil.
func Mended(b api.Bundle, stock, foil int) ([]int, api.Errno) {
	x, y, e := checkBoth(b, stock, foil)
	if e != api.OK {
		return nil, e
	}
	var l []int
	for i, n := range x.Notches {
		if n == api.WornNotch {
			n = y.Notches[i]
		}
		l = append(l, n)
	}
	return l, api.OK
}

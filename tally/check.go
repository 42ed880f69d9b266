// Package tally is layer 7: split sticks that are put together again, as cheaply as can be (shared/doc/07-tally.md).
package tally

import (
	"slices"

	"calx/api"
)

// Check returns the first error of a bundle.
func Check(b api.Bundle) api.Errno {
	if !areFees(b.Wrong, b.Worn, b.LostStock, b.LostFoil) || !areWorths(b.Worths) {
		return api.ErrArg
	}
	if len(b.Stocks) > api.MaxTallies || len(b.Foils) > api.MaxTallies {
		return api.ErrLimit
	}
	seen := map[int]bool{}
	for _, x := range slices.Concat(b.Stocks, b.Foils) {
		if !isTally(b, x) {
			return api.ErrArg
		}
		if seen[x.ID] {
			return api.ErrTwice
		}
		seen[x.ID] = true
	}
	return api.OK
}

// checkTally returns a tally by its ID, or the error of a bundle, or ErrNone if it has no such tally.
func checkTally(b api.Bundle, id int) (api.Tally, api.Errno) {
	if e := Check(b); e != api.OK {
		return api.Tally{}, e
	}
	x, ok := byID(b)[id]
	if !ok {
		return api.Tally{}, api.ErrNone
	}
	return x, api.OK
}

// checkPair returns the numbers of a stock and a foil, each of which may be none, or the error of a bundle, or ErrNone if it has no such ones.
func checkPair(b api.Bundle, stock, foil int) (pair, api.Errno) {
	if e := Check(b); e != api.OK {
		return pair{}, e
	}
	i, isStock := numbersOf(b.Stocks)[stock]
	k, isFoil := numbersOf(b.Foils)[foil]
	if !isStock || !isFoil {
		return pair{}, api.ErrNone
	}
	return pair{i, k}, api.OK
}

// checkBoth returns a stock and a foil, or the error of a bundle, or ErrNone if it has no such ones.
func checkBoth(b api.Bundle, stock, foil int) (api.Tally, api.Tally, api.Errno) {
	p, e := checkPair(b, stock, foil)
	if e != api.OK {
		return api.Tally{}, api.Tally{}, e
	}
	if p.stock == 0 || p.foil == 0 {
		return api.Tally{}, api.Tally{}, api.ErrNone
	}
	return b.Stocks[p.stock-1], b.Foils[p.foil-1], api.OK
}

// byID returns all tallies by their IDs.
func byID(b api.Bundle) map[int]api.Tally {
	tallies := map[int]api.Tally{}
	for _, x := range slices.Concat(b.Stocks, b.Foils) {
		tallies[x.ID] = x
	}
	return tallies
}

// numbersOf returns the numbers of tallies by their IDs: they count from 1 on, since 0 names none.
func numbersOf(l []api.Tally) map[int]int {
	numbers := map[int]int{0: 0}
	for i, x := range l {
		numbers[x.ID] = i + 1
	}
	return numbers
}

func isTally(b api.Bundle, x api.Tally) bool {
	return isID(x.ID) && isPerson(x.Who) && len(x.Notches) == len(b.Worths) && all(x.Notches, isNotch)
}

func areFees(fees ...int) bool { return all(fees, isFee) }

func areWorths(l []int) bool { return isWithin(len(l), 1, api.MaxNotches) && all(l, isWorth) }

func isFee(n int) bool { return isWithin(n, 0, api.MaxFee) }

func isWorth(n int) bool { return isWithin(n, 0, api.MaxNotchIn) }

func isID(n int) bool { return isWithin(n, 1, api.MaxID) }

func isPerson(n int) bool { return isWithin(n, 0, api.MaxPerson) }

func isNotch(n int) bool { return n == api.WornNotch || isWithin(n, 0, api.MaxNotch) }

func isWithin(n, least, most int) bool { return least <= n && n <= most }

// all reports whether something is so of each element of a list.
func all[T any](l []T, isSo func(T) bool) bool {
	return !slices.ContainsFunc(l, func(x T) bool { return !isSo(x) })
}

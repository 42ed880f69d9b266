package sample

import "calx/api"

// Choose returns in how many ways so many barrows can be taken from others.
func Choose(barrows, taken int) (int, api.Errno) {
	if !isWithin(barrows, 0, api.MaxBarrows) || taken < 0 {
		return 0, api.ErrArg
	}
	return choose(barrows, taken), api.OK
}

// Ways returns in how many ways a sample of a whole is as it was seen.
func Ways(whole, seen api.Kinds) (int, api.Errno) {
	if !isWhole(whole) || !isSample(seen) {
		return 0, api.ErrArg
	}
	return waysOf(seen)(whole), api.OK
}

// Chance returns the chance that a sample of a whole is as it was seen.
func Chance(whole, seen api.Kinds) (api.Ratio, api.Errno) {
	ways, e := Ways(whole, seen)
	if e != api.OK {
		return api.Ratio{}, e
	}
	barrows := count(whole)
	if !isUpTo(seen, barrows) {
		return api.Ratio{}, api.ErrRange
	}
	return fraction{ways, choose(barrows, count(seen))}.ratio(), api.OK
}

// choose returns in how many ways k things can be chosen from n.
func choose(n, k int) int {
	if k > n {
		return 0
	}
	ways := 1
	for i := range min(k, n-k) {
		// No remainder is lost: it is C(n, i + 1) each time.
		ways = ways * (n - i) / (i + 1)
	}
	return ways
}

// waysOf returns what tells the ways of a sample by any whole.
func waysOf(seen api.Kinds) func(whole api.Kinds) int {
	return func(whole api.Kinds) int {
		ways := 1
		for sort, n := range whole {
			ways *= choose(n, seen[sort])
		}
		return ways
	}
}

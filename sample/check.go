// Package sample is layer 3: what samples of a batch say of all of it, exactly (shared/doc/03-sample.md).
package sample

import "calx/api"

// Check returns the error of a batch.
func Check(b api.Batch) api.Errno {
	if !isWithin(b.Barrows, 1, api.MaxBarrows) || !isUpTo(b.Seen, b.Barrows) {
		return api.ErrArg
	}
	for _, known := range b.Known {
		if !isSpan(known) || known.Lo < 0 || known.Hi > b.Barrows {
			return api.ErrArg
		}
	}
	for range wholes(b) {
		return api.OK
	}
	return api.ErrClash
}

// checkSort returns the first error of a batch and a sort.
func checkSort(b api.Batch, sort int) api.Errno {
	if e := Check(b); e != api.OK {
		return e
	}
	if !isSort(sort) {
		return api.ErrArg
	}
	return api.OK
}

// checkSpan returns ErrArg unless a span is one.
func checkSpan(s api.Span) api.Errno {
	if !isSpan(s) {
		return api.ErrArg
	}
	return api.OK
}

// checkLevels returns ErrArg unless all of some fractions are levels.
func checkLevels(levels ...api.Ratio) api.Errno {
	for _, r := range levels {
		if !isLevel(r) {
			return api.ErrArg
		}
	}
	return api.OK
}

func isWithin(n, lo, hi int) bool { return lo <= n && n <= hi }

func isSpan(s api.Span) bool { return s.Lo <= s.Hi }

func isSort(sort int) bool { return isWithin(sort, api.SoOver, api.SoCore) }

func isSample(seen api.Kinds) bool { return min(seen[0], seen[1], seen[2]) >= 0 }

func isWhole(whole api.Kinds) bool {
	return isUpTo(whole, api.MaxBarrows) && count(whole) >= 1
}

// isUpTo reports whether numbers are from 0 on, and together at most another one. It takes each from what is left, since the sum of any numbers can be too great for an int.
func isUpTo(k api.Kinds, left int) bool {
	for _, n := range k {
		if !isWithin(n, 0, left) {
			return false
		}
		left -= n
	}
	return true
}

// count returns how many barrows there are of all sorts.
func count(k api.Kinds) int { return k[api.SoOver] + k[api.SoBurnt] + k[api.SoCore] }

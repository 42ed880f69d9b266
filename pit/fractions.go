package pit

import (
	"cmp"
	"iter"

	"calx/api"
)

const (
	maxNum    = 1 << 36 // the greatest numerator of a fraction
	maxFactor = 1 << 14 // the greatest number by which a fraction is multiplied, or divided
)

// Add returns the sum of two fractions.
func Add(a, b api.Ratio) (api.Ratio, api.Errno) {
	if !isValid(a) || !isValid(b) {
		return api.Ratio{}, api.ErrArg
	}
	return inRange(plus(a, b))
}

// Times returns a fraction times n, divided by m.
func Times(a api.Ratio, n, m int) (api.Ratio, api.Errno) {
	if !isValid(a) || !isWithin(n, 0, maxFactor) || !isWithin(m, 1, maxFactor) {
		return api.Ratio{}, api.ErrArg
	}
	return inRange(times(a, n, m))
}

// Compare returns -1, 0 or 1, as a fraction is less than another one, equal to it, or greater.
func Compare(a, b api.Ratio) (int, api.Errno) {
	if !isValid(a) || !isValid(b) {
		return 0, api.ErrArg
	}
	return compare(a, b), api.OK
}

// inRange returns ErrRange in place of a fraction that is not valid.
func inRange(r api.Ratio) (api.Ratio, api.Errno) {
	if !isValid(r) {
		return api.Ratio{}, api.ErrRange
	}
	return r, api.OK
}

func isValid(r api.Ratio) bool {
	return isWithin(r.Num, 0, maxNum) && isWithin(r.Den, 1, api.MaxDenom) && divisor(r.Num, r.Den) == 1
}

func isFine(r api.Ratio) bool { return isValid(r) && r.Den <= api.MaxFine }

// sum adds a fraction of each thing, one by one. It reports whether each sum on the way is right.
func sum[T any](things iter.Seq[T], isRight func(api.Ratio) bool, fraction func(T) api.Ratio) (api.Ratio, bool) {
	all := whole(0)
	for x := range things {
		all = plus(all, fraction(x))
		if !isRight(all) {
			return api.Ratio{}, false
		}
	}
	return all, true
}

// whole returns a number as a fraction.
func whole(n int) api.Ratio { return api.Ratio{Num: n, Den: 1} }

// plus returns the sum of two valid fractions. No product is out of the range of int, since they are valid.
func plus(a, b api.Ratio) api.Ratio {
	return lowest(a.Num*b.Den+b.Num*a.Den, a.Den*b.Den)
}

// times returns a valid fraction times n, divided by m; both are small enough that no product is out of the range of int.
func times(a api.Ratio, n, m int) api.Ratio { return lowest(a.Num*n, a.Den*m) }

// compare holds two valid fractions against each other.
func compare(a, b api.Ratio) int { return cmp.Compare(a.Num*b.Den, b.Num*a.Den) }

// lowest returns a fraction in lowest terms.
func lowest(num, den int) api.Ratio {
	d := divisor(num, den)
	return api.Ratio{Num: num / d, Den: den / d}
}

// divisor returns the greatest number that divides both a and b.
func divisor(a, b int) int {
	for b > 0 {
		a, b = b, a%b
	}
	return a
}

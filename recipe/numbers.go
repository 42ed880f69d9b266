package recipe

import (
	"cmp"
	"iter"

	"calx/api"
)

// ratio returns a fraction in lowest terms. Neither number is below 0, and the second one is not 0.
func ratio(num, den int) api.Ratio {
	d := divisor(num, den)
	return api.Ratio{Num: num / d, Den: den / d}
}

// compare holds two fractions against each other. They are small enough that no product is out of the range of int.
func compare(a, b api.Ratio) int { return cmp.Compare(a.Num*b.Den, b.Num*a.Den) }

// divisor returns the greatest number that divides both a and b, which are not below 0.
func divisor(a, b int) int {
	for b > 0 {
		a, b = b, a%b
	}
	return a
}

// ends returns the least and the greatest of some things, or false if there are none.
func ends[T any](things iter.Seq[T], order func(a, b T) int) (T, T, bool) {
	var least, greatest T
	found := false
	for x := range things {
		if !found || order(x, least) < 0 {
			least = x
		}
		if !found || order(x, greatest) > 0 {
			greatest = x
		}
		found = true
	}
	return least, greatest, found
}

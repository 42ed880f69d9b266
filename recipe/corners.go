package recipe

import (
	"cmp"
	"iter"
	"slices"

	"calx/api"
)

// corner is the least pounds that have the shares of a corner.
type corner [api.MaxStuffs]int

// sum returns the sum of all pounds.
func (c corner) sum() int {
	n := 0
	for _, p := range c {
		n += p
	}
	return n
}

// compare holds the shares of two corners against each other. Each product is in the range of int, since a number of pounds is made of three factors from rules.
func (c corner) compare(d corner) int {
	for i := range c {
		if order := cmp.Compare(c[i]*d.sum(), d[i]*c.sum()); order != 0 {
			return order
		}
	}
	return 0
}

// meet returns the pounds that are at the ends of three sides, or false if they have no shares, or not all the same ones.
func meet(a, b, c side) (corner, bool) {
	var found corner
	common, sign := 0, 1
	for i := range found {
		found[i] = sign * minor(a, b, c, i)
		common = divisor(common, max(found[i], -found[i]))
		sign = -sign
	}
	whole := found.sum()
	if whole == 0 {
		return corner{}, false
	}
	if whole < 0 {
		common = -common
	}
	for i := range found {
		found[i] /= common
	}
	return found, true
}

// minor returns the determinant of three sides without the numbers of a material. The other three go round, which changes no sign.
func minor(a, b, c side, without int) int {
	n := len(a)
	i, j, k := (without+1)%n, (without+2)%n, (without+3)%n
	return a[i]*(b[j]*c[k]-b[k]*c[j]) + a[j]*(b[k]*c[i]-b[i]*c[k]) + a[k]*(b[i]*c[j]-b[j]*c[i])
}

// isOn reports whether pounds are on all of some sides.
func (c corner) isOn(sides []side) bool {
	return all(sides, func(s side) bool { return s.sum(c[:]) >= 0 })
}

// reached yields the pounds that are on all of some sides, and at the ends of three of them; those that are at the ends of more than three, more than once.
func reached(sides []side) iter.Seq[corner] {
	return func(yield func(corner) bool) {
	search:
		for i, a := range sides {
			for j, b := range sides[:i] {
				for _, c := range sides[:j] {
					found, ok := meet(a, b, c)
					if ok && found.isOn(sides) && !yield(found) {
						break search
					}
				}
			}
		}
	}
}

// corners returns what is reached of some sides, each once, in increasing order of the shares.
func corners(sides []side) []corner {
	return slices.Compact(slices.SortedFunc(reached(sides), corner.compare))
}

package sample

import (
	"iter"

	"calx/api"
)

// fraction is a part of all, not yet in lowest terms.
type fraction struct{ part, all int }

// ratio returns a fraction in lowest terms.
func (f fraction) ratio() api.Ratio {
	d := divisor(f.part, f.all)
	return api.Ratio{Num: f.part / d, Den: f.all / d}
}

// atLeast reports whether a fraction is at least a level. Neither product is too great: all ways are less than 2^49, and a level's numbers less than 2^14.
func (f fraction) atLeast(level api.Ratio) bool { return f.part*level.Den >= level.Num*f.all }

// atMost reports whether a fraction is at most a level.
func (f fraction) atMost(level api.Ratio) bool { return f.part*level.Den <= level.Num*f.all }

func isLevel(r api.Ratio) bool {
	return isWithin(r.Den, 1, api.MaxOdds) && isWithin(r.Num, 0, r.Den) && divisor(r.Num, r.Den) == 1
}

// divisor returns the greatest number that divides two others.
func divisor(a, b int) int {
	for b != 0 {
		a, b = b, a%b
	}
	return a
}

// numbers yields the numbers of a span; none, if it is not one.
func numbers(s api.Span) iter.Seq[int] {
	return func(yield func(int) bool) {
		for n := s.Lo; n <= s.Hi; n++ {
			if !yield(n) {
				return
			}
		}
	}
}

// total returns the sum of what is told of some things.
func total[T any](things iter.Seq[T], of func(T) int) int {
	sum := 0
	for x := range things {
		sum += of(x)
	}
	return sum
}

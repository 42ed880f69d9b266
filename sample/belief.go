package sample

import "calx/api"

// belief is how much each number of a sort is believed: its weight by the number, and the weight of all.
type belief struct {
	every   api.Span
	weights map[int]int
	all     int
}

// believed returns what is believed of a sort. The errors are that of the batch, that of the sort, then the further ones in order.
func believed(b api.Batch, sort int, further ...api.Errno) (belief, api.Errno) {
	if e := checkSort(b, sort); e != api.OK {
		return belief{}, e
	}
	for _, e := range further {
		if e != api.OK {
			return belief{}, e
		}
	}
	x := belief{every: api.Span{Hi: b.Barrows}, weights: map[int]int{}}
	ways := waysOf(b.Seen)
	for whole := range wholes(b) {
		x.weights[whole[sort]] += ways(whole)
	}
	x.all = total(numbers(x.every), x.weight)
	return x, api.OK
}

// weight returns the weight of a number.
func (x belief) weight(n int) int { return x.weights[n] }

// within returns how much a span is believed.
func (x belief) within(s api.Span) fraction {
	s = api.Span{Lo: max(s.Lo, x.every.Lo), Hi: min(s.Hi, x.every.Hi)}
	return fraction{total(numbers(s), x.weight), x.all}
}

// times returns the sum of what is told of the numbers, each times its weight.
func (x belief) times(of func(n int) int) int {
	return total(numbers(x.every), func(n int) int { return of(n) * x.weight(n) })
}

// shortest returns the first of the spans with the fewest numbers that are believed enough. All numbers together are.
func (x belief) shortest(level api.Ratio) api.Span {
	for more := range x.every.Hi {
		for lo := range x.every.Hi - more + 1 {
			s := api.Span{Lo: lo, Hi: lo + more}
			if x.within(s).atLeast(level) {
				return s
			}
		}
	}
	return x.every
}

// Weights returns, for each number of a sort, in how many ways the sample could be seen.
func Weights(b api.Batch, sort int) ([]int, api.Errno) {
	x, e := believed(b, sort)
	if e != api.OK {
		return nil, e
	}
	var weights []int
	for n := range numbers(x.every) {
		weights = append(weights, x.weight(n))
	}
	return weights, api.OK
}

// Believed returns the chance that the number of a sort lies in a span.
func Believed(b api.Batch, sort int, s api.Span) (api.Ratio, api.Errno) {
	x, e := believed(b, sort, checkSpan(s))
	if e != api.OK {
		return api.Ratio{}, e
	}
	return x.within(s).ratio(), api.OK
}

// Shortest returns the shortest span in which the number of a sort lies with a chance.
func Shortest(b api.Batch, sort int, level api.Ratio) (api.Span, api.Errno) {
	x, e := believed(b, sort, checkLevels(level))
	if e != api.OK {
		return api.Span{}, e
	}
	return x.shortest(level), api.OK
}

// CheckShortest returns OK if a span is as Shortest says.
func CheckShortest(b api.Batch, sort int, level api.Ratio, s api.Span) api.Errno {
	shortest, e := Shortest(b, sort, level)
	if e != api.OK {
		return e
	}
	if s != shortest {
		return api.ErrProof
	}
	return api.OK
}

// Mean returns the mean number of a sort.
func Mean(b api.Batch, sort int) (api.Ratio, api.Errno) {
	x, e := believed(b, sort)
	if e != api.OK {
		return api.Ratio{}, e
	}
	sum := x.times(func(n int) int { return n })
	return fraction{sum, x.all}.ratio(), api.OK
}

// Next returns the chance that the next barrow is of a sort.
func Next(b api.Batch, sort int) (api.Ratio, api.Errno) {
	x, e := believed(b, sort)
	if e != api.OK {
		return api.Ratio{}, e
	}
	left := b.Barrows - count(b.Seen)
	if left == 0 {
		return api.Ratio{}, api.ErrNone
	}
	// No number less than that of Seen has a weight, so no term is less than 0.
	sum := x.times(func(n int) int { return n - b.Seen[sort] })
	return fraction{sum, x.all * left}.ratio(), api.OK
}

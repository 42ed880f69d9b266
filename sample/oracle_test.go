package sample_test

import (
	"math/big"
	"math/bits"
	"math/rand/v2"
	"testing"

	"calx/api"
	"calx/sample"
)

func span(lo, hi int) api.Span { return api.Span{Lo: lo, Hi: hi} }

func ratio(num, den int) api.Ratio { return api.Ratio{Num: num, Den: den} }

// batch is a batch of which nothing is known.
func batch(barrows int, seen api.Kinds) api.Batch {
	all := span(0, barrows)
	return api.Batch{Barrows: barrows, Seen: seen, Known: [3]api.Span{all, all, all}}
}

// knowing is a batch of which something is known of a sort.
func knowing(b api.Batch, sort int, known api.Span) api.Batch {
	b.Known[sort] = known
	return b
}

// example is the batch of the chapter's examples.
func example() api.Batch { return batch(3, api.Kinds{1, 1, 0}) }

// wrong is a batch that Check does not accept.
func wrong() api.Batch { return api.Batch{} }

// clashing is a batch that has no possible whole, though nothing else is wrong with it.
func clashing() api.Batch {
	return knowing(knowing(example(), api.SoOver, span(2, 3)), api.SoBurnt, span(2, 3))
}

// noSorts is numbers that are no sorts.
func noSorts() []int { return []int{-1, 3, 1 << 62, -1 << 63} }

// of is an exact fraction.
func of(num, den int) *big.Rat { return big.NewRat(int64(num), int64(den)) }

// exact is the fraction that was returned.
func exact(r api.Ratio) *big.Rat { return of(r.Num, r.Den) }

// lowest is a fraction in lowest terms.
func lowest(r *big.Rat) api.Ratio {
	return ratio(int(r.Num().Int64()), int(r.Denom().Int64()))
}

// sum is how many there are of all sorts.
func sum(k api.Kinds) int { return k[0] + k[1] + k[2] }

// plus is two samples together.
func plus(a, b api.Kinds) api.Kinds {
	return api.Kinds{a[0] + b[0], a[1] + b[1], a[2] + b[2]}
}

// sized is all kinds of a number of barrows, in increasing order.
func sized(barrows int) []api.Kinds {
	var l []api.Kinds
	for a := 0; a <= barrows; a++ {
		for b := 0; b <= barrows; b++ {
			for c := 0; c <= barrows; c++ {
				if a+b+c == barrows {
					l = append(l, api.Kinds{a, b, c})
				}
			}
		}
	}
	return l
}

// can is whether a batch can be a whole.
func can(b api.Batch, whole api.Kinds) bool {
	for sort, n := range whole {
		if n < b.Seen[sort] || n < b.Known[sort].Lo || n > b.Known[sort].Hi {
			return false
		}
	}
	return sum(whole) == b.Barrows
}

// wholesOf is all that a batch can be.
func wholesOf(b api.Batch) []api.Kinds {
	var l []api.Kinds
	for _, whole := range sized(b.Barrows) {
		if can(b, whole) {
			l = append(l, whole)
		}
	}
	return l
}

// waysOf counts out the subsets of a whole's barrows that have just the numbers of a sample.
func waysOf(whole, seen api.Kinds) int {
	ways := 0
	for set := range uint(1) << sum(whole) {
		over := set & (1<<whole[0] - 1)
		burnt := set >> whole[0] & (1<<whole[1] - 1)
		core := set >> (whole[0] + whole[1])
		if (api.Kinds{bits.OnesCount(over), bits.OnesCount(burnt), bits.OnesCount(core)}) == seen {
			ways++
		}
	}
	return ways
}

// weightsOf is the weight of each number of a sort, and that of all.
func weightsOf(b api.Batch, sort int) ([]int, int) {
	weights, all := make([]int, b.Barrows+1), 0
	for _, whole := range wholesOf(b) {
		ways := waysOf(whole, b.Seen)
		weights[whole[sort]] += ways
		all += ways
	}
	return weights, all
}

// believedOf is how much a span is believed.
func believedOf(b api.Batch, sort int, s api.Span) *big.Rat {
	weights, all := weightsOf(b, sort)
	part := 0
	for n, w := range weights {
		if s.Lo <= n && n <= s.Hi {
			part += w
		}
	}
	return of(part, all)
}

// withBad counts out the subsets of so many barrows, of which the first ones are bad, that have just n bad ones.
func withBad(barrows, bad, taken, n int) int {
	ways := 0
	for set := range uint(1) << barrows {
		if bits.OnesCount(set) == taken && bits.OnesCount(set&(1<<bad-1)) == n {
			ways++
		}
	}
	return ways
}

// between is the chance that from lo to hi of those taken are bad.
func between(barrows, bad, taken, lo, hi int) *big.Rat {
	part, all := 0, 0
	for n := range taken + 1 {
		ways := withBad(barrows, bad, taken, n)
		all += ways
		if lo <= n && n <= hi {
			part += ways
		}
	}
	return of(part, all)
}

// levels is levels of all sorts: the ends, the least and the greatest between them, and some that chances of few barrows are equal to.
func levels() []api.Ratio {
	return []api.Ratio{
		ratio(0, 1), ratio(1, 1), ratio(1, api.MaxOdds), ratio(api.MaxOdds-1, api.MaxOdds),
		ratio(1, 2), ratio(1, 3), ratio(2, 3), ratio(2, 5), ratio(3, 5), ratio(3, 10), ratio(9, 10), ratio(1, 20), ratio(19, 20), ratio(4, 7), ratio(1, 35),
	}
}

// noLevels is fractions that are no levels.
func noLevels() []api.Ratio {
	return []api.Ratio{
		{}, ratio(1, 0), ratio(0, 2), ratio(2, 2), ratio(2, 4), ratio(6, 4), ratio(3, 2), ratio(-1, 2), ratio(1, -2), ratio(-1, -2), ratio(0, -1),
		ratio(1, api.MaxOdds+1), ratio(api.MaxOdds, api.MaxOdds+1), ratio(1, 1<<62), ratio(1<<62, 1), ratio(-1<<63, 1), ratio(-1<<63, -1<<63),
	}
}

// chanceBatch is a batch of few barrows, of which often, but not always, there is a possible whole.
func chanceBatch(r *rand.Rand) api.Batch {
	b := batch(1+r.IntN(7), api.Kinds{})
	for range r.IntN(b.Barrows + 1) {
		b.Seen[r.IntN(3)]++
	}
	for sort := range b.Known {
		if r.IntN(2) == 0 {
			x, y := r.IntN(b.Barrows+1), r.IntN(b.Barrows+1)
			b.Known[sort] = span(min(x, y), max(x, y))
		}
	}
	return b
}

// many calls a test with many batches that have a possible whole.
func many(t *testing.T, seed uint64, test func(t *testing.T, r *rand.Rand, b api.Batch)) {
	t.Helper()
	r := rand.New(rand.NewPCG(seed, 1))
	good := 0
	for range 600 {
		b := chanceBatch(r)
		if len(wholesOf(b)) == 0 {
			continue
		}
		good++
		test(t, r, b)
		if t.Failed() {
			t.Fatalf("batch: %+v", b)
		}
	}
	if good < 200 {
		t.Error("too few batches have a possible whole:", good)
	}
}

// binomial is C(n, k) as exact as can be.
func binomial(n, k int) *big.Int { return new(big.Int).Binomial(int64(n), int64(k)) }

// answers is what all functions with a batch and a sort answer.
func answers(b api.Batch, sort int) map[string]api.Errno {
	_, ends := sample.Ends(b, sort)
	_, weights := sample.Weights(b, sort)
	_, believed := sample.Believed(b, sort, span(0, 1))
	_, shortest := sample.Shortest(b, sort, ratio(0, 1))
	check := sample.CheckShortest(b, sort, ratio(0, 1), span(0, 0))
	_, mean := sample.Mean(b, sort)
	_, next := sample.Next(b, sort)
	return map[string]api.Errno{
		"P3.1: Ends": ends, "P3.3: Weights": weights, "P3.3: Believed": believed, "P3.4: Shortest": shortest,
		"P3.4: CheckShortest": check, "P3.5: Mean": mean, "P3.5: Next": next,
	}
}

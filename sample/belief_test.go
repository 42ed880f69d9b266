package sample_test

import (
	"math"
	"math/big"
	"math/rand/v2"
	"slices"
	"testing"

	"calx/api"
	"calx/sample"
)

func TestBeliefExamples(t *testing.T) {
	b := example()
	if l, e := sample.Weights(b, api.SoBurnt); e != api.OK || !slices.Equal(l, []int{0, 3, 2, 0}) {
		t.Error("P3.3:", l, e)
	}
	if r, e := sample.Believed(b, api.SoBurnt, span(1, 1)); r != ratio(3, 5) || e != api.OK {
		t.Error("P3.3:", r, e)
	}
	if r, e := sample.Mean(b, api.SoBurnt); r != ratio(7, 5) || e != api.OK {
		t.Error("P3.5:", r, e)
	}
	if r, e := sample.Next(b, api.SoCore); r != ratio(1, 5) || e != api.OK {
		t.Error("P3.5:", r, e)
	}
	for _, x := range []struct {
		level api.Ratio
		want  api.Span
	}{{ratio(1, 2), span(1, 1)}, {ratio(9, 10), span(1, 2)}, {ratio(3, 5), span(1, 1)}, {ratio(6001, 10000), span(1, 2)}, {ratio(1, 1), span(1, 2)}, {ratio(0, 1), span(0, 0)}} {
		if s, e := sample.Shortest(b, api.SoBurnt, x.level); s != x.want || e != api.OK {
			t.Error("P3.4:", x, s, e)
		}
	}
}

func TestBelievedSpans(t *testing.T) {
	for _, x := range []struct {
		s      api.Span
		chance api.Ratio
		want   api.Errno
	}{
		{span(0, 3), ratio(1, 1), api.OK}, {span(math.MinInt, math.MaxInt), ratio(1, 1), api.OK}, {span(math.MinInt, 1), ratio(3, 5), api.OK},
		{span(2, math.MaxInt), ratio(2, 5), api.OK}, {span(0, 0), ratio(0, 1), api.OK}, {span(3, 3), ratio(0, 1), api.OK}, {span(-5, -1), ratio(0, 1), api.OK},
		{span(4, 9), ratio(0, 1), api.OK}, {span(math.MaxInt, math.MaxInt), ratio(0, 1), api.OK}, {span(math.MinInt, math.MinInt), ratio(0, 1), api.OK},
		{span(1, 0), ratio(0, 0), api.ErrArg}, {span(math.MaxInt, math.MinInt), ratio(0, 0), api.ErrArg}, {span(9, 8), ratio(0, 0), api.ErrArg},
	} {
		if r, e := sample.Believed(example(), api.SoBurnt, x.s); r != x.chance || e != x.want {
			t.Error("P3.3:", x, r, e)
		}
	}
}

// TestBelief: weights, what is believed, and means are counted out of all wholes and all subsets.
func TestBelief(t *testing.T) {
	many(t, 2, func(t *testing.T, r *rand.Rand, b api.Batch) {
		means, nexts, left := of(0, 1), of(0, 1), b.Barrows-sum(b.Seen)
		for sort := range 3 {
			weights, all := weightsOf(b, sort)
			got, e := sample.Weights(b, sort)
			if e != api.OK || !slices.Equal(got, weights) {
				t.Error("P3.3:", sort, got, e, weights)
			}
			lo, hi := r.IntN(b.Barrows+3)-1, r.IntN(b.Barrows+3)-1
			s := span(min(lo, hi), max(lo, hi))
			if x, e := sample.Believed(b, sort, s); x != lowest(believedOf(b, sort, s)) || e != api.OK {
				t.Error("P3.3:", sort, s, x, e)
			}
			num, further := 0, 0
			for n, w := range weights {
				num += n * w
				further += (n - b.Seen[sort]) * w
			}
			mean, e := sample.Mean(b, sort)
			if mean != lowest(of(num, all)) || e != api.OK {
				t.Error("P3.5:", sort, mean, e)
			}
			means.Add(means, exact(mean))
			ends, _ := sample.Ends(b, sort)
			if exact(mean).Cmp(of(ends.Lo, 1)) < 0 || exact(mean).Cmp(of(ends.Hi, 1)) > 0 {
				t.Error("P3.14:", sort, mean, ends)
			}
			next, e := sample.Next(b, sort)
			if left == 0 {
				if next != (api.Ratio{}) || e != api.ErrNone {
					t.Error("P3.5: all were seen:", next, e)
				}
				continue
			}
			if next != lowest(of(further, all*left)) || e != api.OK {
				t.Error("P3.5:", sort, next, e)
			}
			nexts.Add(nexts, exact(next))
		}
		if lowest(means) != ratio(b.Barrows, 1) {
			t.Error("P3.14:", means)
		}
		if left > 0 && lowest(nexts) != ratio(1, 1) {
			t.Error("P3.14, T3:", nexts)
		}
	})
}

// TestNextIsSeen: the chance that the next barrow is of a sort is by how much more all is believed, when it was seen, than before.
func TestNextIsSeen(t *testing.T) {
	many(t, 3, func(t *testing.T, r *rand.Rand, b api.Batch) {
		left := b.Barrows - sum(b.Seen)
		if left == 0 {
			return
		}
		_, before := weightsOf(b, 0)
		for sort := range 3 {
			// Of a sample with a barrow more each barrow of the sort can be the last one; so the ways are as often more as there are of it.
			var one api.Kinds
			one[sort] = 1
			after := 0
			if more, e := sample.More(b, one); e == api.OK {
				_, after = weightsOf(more, 0)
				after *= more.Seen[sort]
			}
			if next, e := sample.Next(b, sort); next != lowest(of(after, before*left)) || e != api.OK {
				t.Error("P3.5:", sort, next, e, after, before)
			}
		}
	})
}

func TestBeliefAddsUp(t *testing.T) {
	many(t, 4, func(t *testing.T, r *rand.Rand, b api.Batch) {
		for sort := range 3 {
			weights, _ := sample.Weights(b, sort)
			ends, _ := sample.Ends(b, sort)
			all := 0
			for n, w := range weights {
				all += w
				if (n < ends.Lo || n > ends.Hi) && w != 0 || (n == ends.Lo || n == ends.Hi) && w == 0 {
					t.Error("P3.13:", sort, weights, ends)
				}
			}
			if x, e := sample.Believed(b, sort, span(0, b.Barrows)); all < 1 || x != ratio(1, 1) || e != api.OK {
				t.Error("P3.13:", sort, all, x, e)
			}
			for cut := range b.Barrows {
				low, _ := sample.Believed(b, sort, span(0, cut))
				high, _ := sample.Believed(b, sort, span(cut+1, b.Barrows))
				if x := new(big.Rat).Add(exact(low), exact(high)); lowest(x) != ratio(1, 1) {
					t.Error("P3.13, T3:", sort, cut, low, high)
				}
				if cut == 0 {
					continue
				}
				one, _ := sample.Believed(b, sort, span(cut, cut))
				under, _ := sample.Believed(b, sort, span(0, cut-1))
				if x := new(big.Rat).Add(exact(under), exact(one)); lowest(x) != low {
					t.Error("P3.13:", sort, cut, under, one, low)
				}
			}
		}
	})
}

// TestShortest: the span is found among all spans, and no other one is accepted.
func TestShortest(t *testing.T) {
	many(t, 5, func(t *testing.T, r *rand.Rand, b api.Batch) {
		for sort := range 3 {
			told := append(levels(), lowest(believedOf(b, sort, span(0, r.IntN(b.Barrows+1)))))
			slices.SortFunc(told, func(a, b api.Ratio) int { return exact(a).Cmp(exact(b)) })
			long := 0
			for _, level := range told {
				if level.Den > api.MaxOdds {
					continue
				}
				want := shortestOf(b, sort, level)
				s, e := sample.Shortest(b, sort, level)
				if s != want || e != api.OK {
					t.Error("P3.4:", sort, level, s, e, want)
				}
				if s.Hi-s.Lo < long {
					t.Error("P3.16: fewer numbers with a greater level:", sort, level, s)
				}
				long = s.Hi - s.Lo
				if e := sample.CheckShortest(b, sort, level, s); e != api.OK {
					t.Error("P3.16:", sort, level, s, e)
				}
				for _, other := range []api.Span{span(s.Lo, s.Hi+1), span(s.Lo-1, s.Hi), span(s.Lo+1, s.Hi), span(s.Lo, s.Hi-1), span(s.Lo+1, s.Hi+1), span(s.Hi, s.Lo-1), span(math.MinInt, math.MaxInt), span(s.Lo-1, s.Hi-1)} {
					if e := sample.CheckShortest(b, sort, level, other); e != api.ErrProof {
						t.Error("P3.4:", sort, level, other, s, e)
					}
				}
			}
		}
	})
}

// shortestOf is the first span of a sorted list of all that are believed enough.
func shortestOf(b api.Batch, sort int, level api.Ratio) api.Span {
	var l []api.Span
	for lo := range b.Barrows + 1 {
		for hi := lo; hi <= b.Barrows; hi++ {
			if s := span(lo, hi); believedOf(b, sort, s).Cmp(exact(level)) >= 0 {
				l = append(l, s)
			}
		}
	}
	return slices.MinFunc(l, func(x, y api.Span) int {
		if x.Hi-x.Lo != y.Hi-y.Lo {
			return x.Hi - x.Lo - (y.Hi - y.Lo)
		}
		return x.Lo - y.Lo
	})
}

func TestLevels(t *testing.T) {
	for _, level := range noLevels() {
		if s, e := sample.Shortest(example(), 0, level); s != (api.Span{}) || e != api.ErrArg {
			t.Error("P3.4:", level, s, e)
		}
		if e := sample.CheckShortest(example(), 0, level, span(7, 9)); e != api.ErrArg {
			t.Error("P3.4:", level, e)
		}
		if n, e := sample.Upper(5, 2, 1, level); n != 0 || e != api.ErrArg {
			t.Error("P3.7:", level, n, e)
		}
		if n, e := sample.Lower(5, 2, 1, level); n != 0 || e != api.ErrArg {
			t.Error("P3.7:", level, n, e)
		}
		if p, e := sample.Smallest(5, 0, 3, level, ratio(1, 2)); p != (api.Trial{}) || e != api.ErrArg {
			t.Error("P3.9:", level, p, e)
		}
		if p, e := sample.Smallest(5, 0, 3, ratio(1, 2), level); p != (api.Trial{}) || e != api.ErrArg {
			t.Error("P3.9:", level, p, e)
		}
	}
	for _, level := range levels() {
		if _, e := sample.Shortest(example(), 0, level); e != api.OK {
			t.Error("P3.4:", level, e)
		}
		if _, e := sample.Upper(5, 2, 1, level); e != api.OK {
			t.Error("P3.7:", level, e)
		}
		if _, e := sample.Lower(5, 2, 1, level); e != api.OK {
			t.Error("P3.7:", level, e)
		}
		if _, e := sample.Smallest(5, 0, 3, level, level); e != api.OK {
			t.Error("P3.9:", level, e)
		}
	}
}

// greatBatches is batches with the greatest weights, and with wholes and samples of all sorts.
func greatBatches() []api.Batch {
	return []api.Batch{
		batch(50, api.Kinds{}), batch(50, api.Kinds{24, 0, 0}), batch(50, api.Kinds{8, 8, 8}), batch(50, api.Kinds{0, 1, 24}), batch(50, api.Kinds{50, 0, 0}),
		batch(49, api.Kinds{0, 24, 0}), batch(50, api.Kinds{3, 20, 1}),
		knowing(knowing(batch(50, api.Kinds{2, 11, 2}), api.SoOver, span(5, 20)), api.SoCore, span(0, 9)),
	}
}

// TestGreatBelief: with the greatest weights all numbers are still exact.
func TestGreatBelief(t *testing.T) {
	for _, b := range greatBatches() {
		for sort := range 3 {
			weights := make([]*big.Int, b.Barrows+1)
			for n := range weights {
				weights[n] = new(big.Int)
			}
			all, num := new(big.Int), new(big.Int)
			for _, whole := range wholesOf(b) {
				w := big.NewInt(1)
				for i, n := range whole {
					w.Mul(w, binomial(n, b.Seen[i]))
				}
				n := whole[sort]
				weights[n].Add(weights[n], w)
				all.Add(all, w)
				num.Add(num, new(big.Int).Mul(big.NewInt(int64(n)), w))
			}
			got, e := sample.Weights(b, sort)
			for n, w := range weights {
				if e != api.OK || w.Cmp(big.NewInt(int64(got[n]))) != 0 {
					t.Error("P3.3:", b, sort, n, got, e)
				}
			}
			if b.Known == batch(b.Barrows, b.Seen).Known && all.Cmp(binomial(b.Barrows+2, sum(b.Seen)+2)) != 0 {
				t.Error("P3.13: all weights:", b, all)
			}
			if mean, e := sample.Mean(b, sort); mean != lowest(new(big.Rat).SetFrac(num, all)) || e != api.OK {
				t.Error("P3.5:", b, sort, mean, e)
			}
			left := b.Barrows - sum(b.Seen)
			if left > 0 {
				further := new(big.Int).Sub(num, new(big.Int).Mul(big.NewInt(int64(b.Seen[sort])), all))
				want := new(big.Rat).SetFrac(further, new(big.Int).Mul(all, big.NewInt(int64(left))))
				if next, e := sample.Next(b, sort); next != lowest(want) || e != api.OK {
					t.Error("P3.5:", b, sort, next, e)
				}
			}
			greatShortest(t, b, sort, weights, all)
		}
	}
}

// greatShortest compares the shortest spans with those of exact weights.
func greatShortest(t *testing.T, b api.Batch, sort int, weights []*big.Int, all *big.Int) {
	t.Helper()
	for _, level := range append(levels(), ratio(9997, 9999), ratio(4999, 10000)) {
		want, found := api.Span{}, false
		for long := 0; long <= b.Barrows && !found; long++ {
			for lo := 0; lo+long <= b.Barrows && !found; lo++ {
				part := new(big.Int)
				for n := lo; n <= lo+long; n++ {
					part.Add(part, weights[n])
				}
				if new(big.Rat).SetFrac(part, all).Cmp(exact(level)) >= 0 {
					want, found = span(lo, lo+long), true
				}
			}
		}
		if s, e := sample.Shortest(b, sort, level); s != want || e != api.OK {
			t.Error("P3.4:", b, sort, level, s, e, want)
		}
	}
}

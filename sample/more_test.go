package sample_test

import (
	"math"
	"math/rand/v2"
	"slices"
	"testing"

	"calx/api"
	"calx/sample"
)

func TestMoreErrors(t *testing.T) {
	narrow := knowing(batch(5, api.Kinds{1, 1, 0}), api.SoOver, span(0, 2))
	for _, x := range []struct {
		name string
		b    api.Batch
		seen api.Kinds
		want api.Errno
	}{
		{"one more", example(), api.Kinds{0, 0, 1}, api.OK},
		{"none more", example(), api.Kinds{}, api.OK},
		{"none more, all seen", batch(3, api.Kinds{1, 1, 1}), api.Kinds{}, api.OK},
		{"a barrow too many", example(), api.Kinds{1, 0, 1}, api.ErrRange},
		{"a barrow too many, all seen", batch(3, api.Kinds{1, 1, 1}), api.Kinds{0, 1, 0}, api.ErrRange},
		{"so many that the sum is out of range", example(), api.Kinds{math.MaxInt, math.MaxInt, 2}, api.ErrRange},
		{"below 0", example(), api.Kinds{0, -1, 0}, api.ErrArg},
		{"below 0, not below together", example(), api.Kinds{0, -1, 1}, api.ErrArg},
		{"below 0, and a barrow too many", example(), api.Kinds{9, 9, -1}, api.ErrArg},
		{"more than is known", narrow, api.Kinds{2, 0, 0}, api.ErrClash},
		{"as many as are known", narrow, api.Kinds{1, 2, 0}, api.OK},
		{"more than is known, and a barrow too many", narrow, api.Kinds{2, 2, 0}, api.ErrRange},
		{"too few left for another sort", knowing(batch(5, api.Kinds{1, 1, 0}), api.SoCore, span(2, 5)), api.Kinds{1, 1, 0}, api.ErrClash},
	} {
		want := api.Batch{}
		if x.want == api.OK {
			want = x.b
			want.Seen = plus(x.b.Seen, x.seen)
		}
		if b, e := sample.More(x.b, x.seen); b != want || e != x.want {
			t.Error("P3.6:", x.name, b, e)
		}
	}
}

// split is two samples that are together so many.
func split(r *rand.Rand, k api.Kinds) (api.Kinds, api.Kinds) {
	var a, b api.Kinds
	for sort, n := range k {
		a[sort] = r.IntN(n + 1)
		b[sort] = n - a[sort]
	}
	return a, b
}

// TestMore: two samples tell the same in any order, and as one.
func TestMore(t *testing.T) {
	many(t, 6, func(t *testing.T, r *rand.Rand, b api.Batch) {
		l := wholesOf(b)
		whole := l[r.IntN(len(l))]
		var left api.Kinds
		for sort, n := range whole {
			left[sort] = n - b.Seen[sort]
		}
		told, _ := split(r, left)
		one, other := split(r, told)
		together, e := sample.More(b, told)
		if e != api.OK || together.Seen != plus(b.Seen, told) || together.Known != b.Known || together.Barrows != b.Barrows {
			t.Error("P3.6:", told, together, e)
		}
		a, e1 := sample.More(b, one)
		a, e2 := sample.More(a, other)
		c, e3 := sample.More(b, other)
		c, e4 := sample.More(c, one)
		if a != together || c != together || e1 != api.OK || e2 != api.OK || e3 != api.OK || e4 != api.OK {
			t.Error("P3.15:", one, other, a, c, together)
		}
		for sort := range 3 {
			want, _ := weightsOf(together, sort)
			x, _ := sample.Weights(a, sort)
			y, _ := sample.Weights(c, sort)
			if !slices.Equal(x, want) || !slices.Equal(y, want) {
				t.Error("P3.15:", sort, x, y, want)
			}
		}
		all, e := sample.More(b, left)
		if got, e2 := sample.Wholes(all); e != api.OK || e2 != api.OK || !slices.Equal(got, []api.Kinds{whole}) {
			t.Error("P3.15: all was seen:", whole, got, e, e2)
		}
	})
}

func TestBin(t *testing.T) {
	b := batch(5, api.Kinds{1, 0, 0})
	x, e := sample.New(b)
	if x == nil || e != api.OK || x.Batch() != b {
		t.Fatal("P3.11:", x, e)
	}
	if e := x.Back(); e != api.ErrState || x.Batch() != b {
		t.Error("P3.11: nothing to take back:", e, x.Batch())
	}
	steps := []struct {
		name string
		do   func() api.Errno
		want api.Errno
		seen api.Kinds
	}{
		{"one", func() api.Errno { return x.Draw(api.Kinds{0, 1, 0}) }, api.OK, api.Kinds{1, 1, 0}},
		{"two", func() api.Errno { return x.Draw(api.Kinds{1, 0, 1}) }, api.OK, api.Kinds{2, 1, 1}},
		{"too many", func() api.Errno { return x.Draw(api.Kinds{0, 2, 0}) }, api.ErrRange, api.Kinds{2, 1, 1}},
		{"below 0", func() api.Errno { return x.Draw(api.Kinds{-1, 0, 0}) }, api.ErrArg, api.Kinds{2, 1, 1}},
		{"none", func() api.Errno { return x.Draw(api.Kinds{}) }, api.OK, api.Kinds{2, 1, 1}},
		{"back of none", x.Back, api.OK, api.Kinds{2, 1, 1}},
		{"back of two", x.Back, api.OK, api.Kinds{1, 1, 0}},
		{"others", func() api.Errno { return x.Draw(api.Kinds{0, 0, 3}) }, api.OK, api.Kinds{1, 1, 3}},
		{"back of the others", x.Back, api.OK, api.Kinds{1, 1, 0}},
		{"back of one", x.Back, api.OK, api.Kinds{1, 0, 0}},
		{"back of nothing", x.Back, api.ErrState, api.Kinds{1, 0, 0}},
		{"back of nothing again", x.Back, api.ErrState, api.Kinds{1, 0, 0}},
	}
	for _, s := range steps {
		if e := s.do(); e != s.want || x.Batch() != batch(5, s.seen) {
			t.Error("P3.11:", s.name, e, x.Batch())
		}
	}
}

func TestBinErrors(t *testing.T) {
	for _, x := range []struct {
		b    api.Batch
		want api.Errno
	}{{wrong(), api.ErrArg}, {clashing(), api.ErrClash}} {
		if bin, e := sample.New(x.b); bin != nil || e != x.want {
			t.Error("P3.11:", bin, e)
		}
	}
	bin, _ := sample.New(knowing(batch(3, api.Kinds{}), api.SoOver, span(0, 0)))
	if e := bin.Draw(api.Kinds{1, 0, 0}); e != api.ErrClash || bin.Batch().Seen != (api.Kinds{}) {
		t.Error("P3.11: more than is known:", e, bin.Batch())
	}
	if e := bin.Back(); e != api.ErrState {
		t.Error("R5: what was refused was taken:", e)
	}
}

// TestBinLimit: as many samples as the limit says are taken, also empty ones; what was taken back does not count.
func TestBinLimit(t *testing.T) {
	x, _ := sample.New(batch(50, api.Kinds{}))
	for i := range api.MaxDrawn {
		if e := x.Draw(api.Kinds{0, i % 2, 0}); e != api.OK {
			t.Fatal("P3.11:", i, e)
		}
	}
	for _, seen := range []api.Kinds{{}, {1, 0, 0}, {-1, 0, 0}, {51, 0, 0}} {
		if e := x.Draw(seen); e != api.ErrLimit || x.Batch() != batch(50, api.Kinds{0, 20, 0}) {
			t.Error("P3.11: the limit comes first:", seen, e, x.Batch())
		}
	}
	if e := x.Back(); e != api.OK || x.Batch().Seen != (api.Kinds{0, 19, 0}) {
		t.Error("P3.11:", e, x.Batch())
	}
	if e := x.Draw(api.Kinds{0, 0, 7}); e != api.OK || x.Batch().Seen != (api.Kinds{0, 19, 7}) {
		t.Error("P3.11:", e, x.Batch())
	}
	if e := x.Draw(api.Kinds{}); e != api.ErrLimit {
		t.Error("P3.11:", e)
	}
	for range api.MaxDrawn {
		if e := x.Back(); e != api.OK {
			t.Error("P3.11:", e)
		}
	}
	if e := x.Back(); e != api.ErrState || x.Batch() != batch(50, api.Kinds{}) {
		t.Error("P3.11:", e, x.Batch())
	}
}

// TestBins: bins tell what batches tell, step by step, and none changes another one.
func TestBins(t *testing.T) {
	many(t, 7, func(t *testing.T, r *rand.Rand, b api.Batch) {
		x, e := sample.New(b)
		y, _ := sample.New(b)
		if e != api.OK {
			t.Fatal("P3.11:", e)
		}
		past := []api.Batch{b}
		for range 12 {
			now := past[len(past)-1]
			if r.IntN(3) == 0 {
				want := api.ErrState
				if len(past) > 1 {
					want, past = api.OK, past[:len(past)-1]
				}
				if e := x.Back(); e != want {
					t.Error("P3.11: Back:", e, want)
				}
			} else {
				seen := api.Kinds{r.IntN(3), r.IntN(3), r.IntN(4) - 1}
				more, want := sample.More(now, seen)
				if want == api.OK {
					past = append(past, more)
				}
				if e := x.Draw(seen); e != want {
					t.Error("P3.11: Draw:", seen, e, want)
				}
			}
			if now := past[len(past)-1]; x.Batch() != now || y.Batch() != b {
				t.Error("P3.11:", x.Batch(), now, y.Batch())
			}
		}
	})
}

package sample_test

import (
	"math"
	"math/rand/v2"
	"slices"
	"testing"

	"calx/api"
	"calx/sample"
)

func TestCheck(t *testing.T) {
	for _, x := range []struct {
		name   string
		change func(b *api.Batch)
		want   api.Errno
	}{
		{"none", func(b *api.Batch) {}, api.OK},
		{"no barrows", func(b *api.Batch) { *b = batch(0, api.Kinds{}) }, api.ErrArg},
		{"nothing at all", func(b *api.Batch) { *b = api.Batch{} }, api.ErrArg},
		{"one barrow", func(b *api.Batch) { *b = batch(1, api.Kinds{}) }, api.OK},
		{"as many barrows as can be", func(b *api.Batch) { *b = batch(api.MaxBarrows, api.Kinds{20, 20, 10}) }, api.OK},
		{"a barrow too many", func(b *api.Batch) { *b = batch(api.MaxBarrows+1, api.Kinds{}) }, api.ErrArg},
		{"barrows below 0", func(b *api.Batch) { b.Barrows = -1 }, api.ErrArg},
		{"least barrows", func(b *api.Batch) { b.Barrows = math.MinInt }, api.ErrArg},
		{"greatest barrows", func(b *api.Batch) { b.Barrows = math.MaxInt }, api.ErrArg},
		{"all seen", func(b *api.Batch) { b.Seen = api.Kinds{1, 1, 1} }, api.OK},
		{"all of a sort seen", func(b *api.Batch) { b.Seen = api.Kinds{0, 0, 3} }, api.OK},
		{"too many seen", func(b *api.Batch) { b.Seen = api.Kinds{1, 1, 2} }, api.ErrArg},
		{"too many of a sort seen", func(b *api.Batch) { b.Seen = api.Kinds{0, 4, 0} }, api.ErrArg},
		{"too many seen, together few", func(b *api.Batch) { b.Seen = api.Kinds{4, -2, 0} }, api.ErrArg},
		{"below 0 seen first", func(b *api.Batch) { b.Seen = api.Kinds{-1, 1, 1} }, api.ErrArg},
		{"below 0 seen last", func(b *api.Batch) { b.Seen = api.Kinds{1, 1, -1} }, api.ErrArg},
		{"so many seen that the sum is out of range", func(b *api.Batch) { b.Seen = api.Kinds{math.MaxInt, math.MaxInt, 3} }, api.ErrArg},
		{"so few seen that the sum is out of range", func(b *api.Batch) { b.Seen = api.Kinds{math.MinInt, math.MinInt, 1} }, api.ErrArg},
		{"too much known, nothing possible", func(b *api.Batch) { b.Known[0] = span(0, 0); b.Known[1].Hi = 4 }, api.ErrArg},
		{"too many seen, nothing possible", func(b *api.Batch) { b.Known[0] = span(0, 0); b.Seen[1] = 4 }, api.ErrArg},
		{"known less than seen", func(b *api.Batch) { b.Known[1] = span(0, 0) }, api.ErrClash},
		{"known as seen", func(b *api.Batch) { b.Known[1] = span(1, 1) }, api.OK},
		{"all known to be too few", func(b *api.Batch) { b.Known = [3]api.Span{span(0, 1), span(0, 1), span(0, 0)} }, api.ErrClash},
		{"all known to be enough", func(b *api.Batch) { b.Known = [3]api.Span{span(0, 1), span(0, 1), span(0, 1)} }, api.OK},
		{"all known to be too many", func(b *api.Batch) { b.Known = [3]api.Span{span(2, 3), span(0, 3), span(1, 3)} }, api.ErrClash},
		{"all known to be the most", func(b *api.Batch) { b.Known = [3]api.Span{span(2, 3), span(0, 3), span(0, 3)} }, api.OK},
		{"seen and known to be too many", func(b *api.Batch) { b.Known[2] = span(2, 3) }, api.ErrClash},
	} {
		b := example()
		x.change(&b)
		if e := sample.Check(b); e != x.want {
			t.Error("P3.1:", x.name, e)
		}
	}
}

func TestCheckKnown(t *testing.T) {
	for sort := range 3 {
		for _, x := range []struct {
			known api.Span
			want  api.Errno
		}{
			{span(0, 3), api.OK}, {span(1, 1), api.OK}, {span(-1, 3), api.ErrArg}, {span(0, 4), api.ErrArg}, {span(2, 1), api.ErrArg}, {span(4, 4), api.ErrArg},
			{span(-1, -1), api.ErrArg}, {span(math.MinInt, math.MaxInt), api.ErrArg}, {span(math.MaxInt, math.MinInt), api.ErrArg}, {span(3, 0), api.ErrArg},
		} {
			if e := sample.Check(knowing(batch(3, api.Kinds{}), sort, x.known)); e != x.want {
				t.Error("P3.1:", sort, x, e)
			}
		}
	}
}

// TestCheckFirst: the error of Check is that of all functions with a batch, and no sort is wrong ahead of it.
func TestCheckFirst(t *testing.T) {
	for _, x := range []struct {
		b    api.Batch
		want api.Errno
	}{{wrong(), api.ErrArg}, {clashing(), api.ErrClash}} {
		if l, e := sample.Wholes(x.b); len(l) != 0 || e != x.want {
			t.Error("P3.1: Wholes:", l, e)
		}
		for _, sort := range append(noSorts(), 0, 1, 2) {
			for name, e := range answers(x.b, sort) {
				if e != x.want {
					t.Error(name, sort, e, x.want)
				}
			}
		}
		if s, e := sample.Ends(x.b, 0); s != (api.Span{}) || e != x.want {
			t.Error("P3.1: Ends:", s, e)
		}
		if l, e := sample.Weights(x.b, 0); len(l) != 0 || e != x.want {
			t.Error("P3.3: Weights:", l, e)
		}
		if r, e := sample.Believed(x.b, 0, span(2, 1)); r != (api.Ratio{}) || e != x.want {
			t.Error("P3.3: Believed:", r, e)
		}
		if s, e := sample.Shortest(x.b, 0, ratio(2, 1)); s != (api.Span{}) || e != x.want {
			t.Error("P3.4: Shortest:", s, e)
		}
		if e := sample.CheckShortest(x.b, 0, ratio(2, 1), span(2, 1)); e != x.want {
			t.Error("P3.4: CheckShortest:", e)
		}
		if m, e := sample.More(x.b, api.Kinds{-1, 0, 0}); m != (api.Batch{}) || e != x.want {
			t.Error("P3.6: More:", m, e)
		}
		if bin, e := sample.New(x.b); bin != nil || e != x.want {
			t.Error("P3.11: New:", bin, e)
		}
	}
}

func TestSorts(t *testing.T) {
	for sort := range 3 {
		for name, e := range answers(example(), sort) {
			if e != api.OK {
				t.Error(name, sort, e)
			}
		}
	}
	all := batch(3, api.Kinds{1, 1, 1})
	for _, sort := range noSorts() {
		for name, e := range answers(example(), sort) {
			if e != api.ErrArg {
				t.Error(name, sort, e)
			}
		}
		// That there is no sort comes ahead of that there is no barrow left, and of that the span is another one.
		if r, e := sample.Next(all, sort); r != (api.Ratio{}) || e != api.ErrArg {
			t.Error("P3.5: Next:", r, e)
		}
		if e := sample.CheckShortest(example(), sort, ratio(0, 1), span(5, 7)); e != api.ErrArg {
			t.Error("P3.4: CheckShortest:", e)
		}
	}
}

func TestExampleWholes(t *testing.T) {
	if l, e := sample.Wholes(example()); e != api.OK || !slices.Equal(l, []api.Kinds{{1, 1, 1}, {1, 2, 0}, {2, 1, 0}}) {
		t.Error("P3.1:", l, e)
	}
	for sort, want := range []api.Span{span(1, 2), span(1, 2), span(0, 1)} {
		if s, e := sample.Ends(example(), sort); s != want || e != api.OK {
			t.Error("P3.1:", sort, s, e)
		}
	}
}

// TestWholes: what is possible, and what is not, is counted out of all that batches can be.
func TestWholes(t *testing.T) {
	r := rand.New(rand.NewPCG(1, 1))
	good, bad := 0, 0
	for range 2000 {
		b := chanceBatch(r)
		l := wholesOf(b)
		got, e := sample.Wholes(b)
		if len(l) == 0 {
			bad++
			if len(got) != 0 || e != api.ErrClash || sample.Check(b) != api.ErrClash {
				t.Fatalf("P3.1: nothing is possible: %+v: %v %v", b, got, e)
			}
			continue
		}
		good++
		if e != api.OK || !slices.Equal(got, l) {
			t.Fatalf("P3.1: %+v: %v, not %v, %v", b, got, l, e)
		}
		for sort := range 3 {
			want := span(l[0][sort], l[0][sort])
			for _, whole := range l {
				want = span(min(want.Lo, whole[sort]), max(want.Hi, whole[sort]))
			}
			if s, e := sample.Ends(b, sort); s != want || e != api.OK {
				t.Fatalf("P3.1: %+v: %v %v, not %v, %v", b, sort, s, want, e)
			}
		}
	}
	if good < 500 || bad < 500 {
		t.Error("too few batches of a sort:", good, bad)
	}
}

func TestWholesAreNew(t *testing.T) {
	a, _ := sample.Wholes(example())
	a[0] = api.Kinds{9, 9, 9}
	if b, _ := sample.Wholes(example()); b[0] != (api.Kinds{1, 1, 1}) {
		t.Error("R6: two results share memory:", b)
	}
}

func TestGreatWholes(t *testing.T) {
	b := batch(api.MaxBarrows, api.Kinds{})
	if l, e := sample.Wholes(b); e != api.OK || !slices.Equal(l, wholesOf(b)) || len(l) != 51*52/2 {
		t.Error("P3.1:", len(l), e)
	}
	for sort := range 3 {
		if s, e := sample.Ends(b, sort); s != span(0, 50) || e != api.OK {
			t.Error("P3.1:", s, e)
		}
	}
}

package sample_test

import (
	"math"
	"math/rand/v2"
	"slices"
	"testing"

	"calx/api"
	"calx/sample"
)

func TestTogetherErrors(t *testing.T) {
	two := []api.Batch{example(), example()}
	full := slices.Repeat([]api.Batch{example()}, api.MaxBatches)
	for _, x := range []struct {
		name string
		l    []api.Batch
		sort int
		sum  api.Span
		want api.Errno
	}{
		{"two", two, api.SoBurnt, span(4, 9), api.OK},
		{"as many batches as can be", full, api.SoBurnt, span(12, 12), api.OK},
		{"a batch too many", append(full, example()), api.SoBurnt, span(12, 12), api.ErrLimit},
		{"a batch too many ahead of what is wrong with one", append(slices.Clone(full), wrong()), 9, span(2, 1), api.ErrLimit},
		{"a wrong batch", []api.Batch{example(), wrong()}, api.SoBurnt, span(0, 9), api.ErrArg},
		{"a batch that clashes", []api.Batch{example(), clashing()}, api.SoBurnt, span(0, 9), api.ErrClash},
		{"the first one that is wrong", []api.Batch{clashing(), wrong()}, api.SoBurnt, span(0, 9), api.ErrClash},
		{"the first one that is wrong, in another order", []api.Batch{wrong(), clashing()}, api.SoBurnt, span(0, 9), api.ErrArg},
		{"a batch that clashes ahead of the sort", []api.Batch{clashing()}, 9, span(0, 9), api.ErrClash},
		{"a batch that clashes ahead of the span", []api.Batch{clashing()}, api.SoBurnt, span(2, 1), api.ErrClash},
		{"no sort", two, 3, span(0, 9), api.ErrArg},
		{"no sort below", two, -1, span(0, 9), api.ErrArg},
		{"no sort ahead of no numbers", two, 3, span(9, 9), api.ErrArg},
		{"no span", two, api.SoBurnt, span(4, 3), api.ErrArg},
		{"no span at all", two, api.SoBurnt, span(math.MaxInt, math.MinInt), api.ErrArg},
		{"too great a sum", two, api.SoBurnt, span(5, 9), api.ErrClash},
		{"too small a sum", two, api.SoBurnt, span(0, 1), api.ErrClash},
		{"the greatest sum", two, api.SoBurnt, span(math.MaxInt, math.MaxInt), api.ErrClash},
		{"the least sum", two, api.SoBurnt, span(math.MinInt, math.MinInt), api.ErrClash},
		{"any sum", two, api.SoBurnt, span(math.MinInt, math.MaxInt), api.OK},
		{"no batches", nil, api.SoBurnt, span(-1, 1), api.OK},
		{"no batches, with a sum", nil, api.SoBurnt, span(1, 2), api.ErrClash},
		{"no batches, with a sum below 0", nil, api.SoBurnt, span(-2, -1), api.ErrClash},
		{"no batches, no sort", nil, 3, span(0, 0), api.ErrArg},
		{"no batches, no span", nil, 0, span(1, 0), api.ErrArg},
	} {
		l, e := sample.Together(x.l, x.sort, x.sum)
		if e != x.want || e == api.OK && len(l) != len(x.l) || e != api.OK && len(l) != 0 {
			t.Error("P3.10:", x.name, l, e)
		}
	}
	if l, e := sample.Together(two, api.SoBurnt, span(4, 9)); e != api.OK || !slices.Equal(l, []api.Span{span(2, 2), span(2, 2)}) {
		t.Error("P3.10:", l, e)
	}
}

// sums calls a function with all numbers of a sort that batches can have together.
func sums(l []api.Batch, sort int, numbers []int, do func(numbers []int)) {
	if len(numbers) == len(l) {
		do(numbers)
		return
	}
	can := map[int]bool{}
	for _, whole := range wholesOf(l[len(numbers)]) {
		can[whole[sort]] = true
	}
	for n := range can {
		sums(l, sort, append(slices.Clone(numbers), n), do)
	}
}

// togetherOf is the numbers that each batch has, by their sum.
func togetherOf(l []api.Batch, sort int, s api.Span) []map[int]bool {
	var each []map[int]bool
	for range l {
		each = append(each, map[int]bool{})
	}
	sums(l, sort, nil, func(numbers []int) {
		sum := 0
		for _, n := range numbers {
			sum += n
		}
		if sum < s.Lo || sum > s.Hi {
			return
		}
		for i, n := range numbers {
			each[i][n] = true
		}
	})
	return each
}

// TestTogether: what each batch can have is counted out; all of it occurs; and less is possible with a narrower sum.
func TestTogether(t *testing.T) {
	r := rand.New(rand.NewPCG(9, 1))
	good, bad := 0, 0
	for range 1500 {
		var l []api.Batch
		for len(l) < 1+r.IntN(3) {
			if b := chanceBatch(r); len(wholesOf(b)) > 0 {
				l = append(l, b)
			}
		}
		sort, lo := r.IntN(3), r.IntN(9)
		s := span(lo, lo+r.IntN(5))
		kept := slices.Clone(l)
		got, e := sample.Together(l, sort, s)
		if !slices.Equal(l, kept) {
			t.Fatal("R6: the argument was changed")
		}
		each := togetherOf(l, sort, s)
		if len(each[0]) == 0 {
			bad++
			if len(got) != 0 || e != api.ErrClash {
				t.Fatalf("P3.10: %+v %v %v: %v %v", l, sort, s, got, e)
			}
			continue
		}
		good++
		if e != api.OK || len(got) != len(l) {
			t.Fatalf("P3.10: %+v %v %v: %v %v", l, sort, s, got, e)
		}
		for i, g := range got {
			if g.Hi-g.Lo+1 != len(each[i]) {
				t.Errorf("P3.19: %+v %v %v: %v, not %v", l, sort, s, got, each)
			}
			for n := range each[i] {
				if n < g.Lo || n > g.Hi {
					t.Errorf("P3.10: %+v %v %v: %v, not %v", l, sort, s, got, each)
				}
			}
		}
		wide, e := sample.Together(l, sort, span(s.Lo-r.IntN(3), s.Hi+r.IntN(3)))
		all, e2 := sample.Together(l, sort, span(math.MinInt, math.MaxInt))
		for i, g := range got {
			ends, _ := sample.Ends(l[i], sort)
			if e != api.OK || wide[i].Lo > g.Lo || wide[i].Hi < g.Hi {
				t.Errorf("P3.19: a narrower sum: %v, not %v", got, wide)
			}
			if e2 != api.OK || all[i] != ends {
				t.Errorf("P3.19: any sum: %v, not %v", all, ends)
			}
		}
	}
	if good < 300 || bad < 300 {
		t.Error("too few batches of a sort:", good, bad)
	}
}

func TestGreatTogether(t *testing.T) {
	l := slices.Repeat([]api.Batch{batch(50, api.Kinds{1, 2, 3})}, api.MaxBatches)
	l[5] = batch(50, api.Kinds{0, 40, 0})
	for _, x := range []struct {
		sum                   api.Span
		lo, hi, fifth, fifth2 int
	}{
		{span(62, 62), 2, 2, 40, 40}, {span(62, 70), 2, 10, 40, 48}, {span(62, 600), 2, 46, 40, 50}, {span(555, 556), 45, 46, 49, 50}, {span(550, 1000), 40, 46, 44, 50},
		{span(math.MinInt, 62), 2, 2, 40, 40}, {span(556, math.MaxInt), 46, 46, 50, 50}, {span(555, math.MaxInt), 45, 46, 49, 50},
	} {
		got, e := sample.Together(l, api.SoBurnt, x.sum)
		if e != api.OK || len(got) != len(l) {
			t.Fatal("P3.10:", x, got, e)
		}
		for i, s := range got {
			want := span(x.lo, x.hi)
			if i == 5 {
				want = span(x.fifth, x.fifth2)
			}
			if s != want {
				t.Error("P3.10:", x, i, s)
			}
		}
	}
	for _, sum := range []api.Span{span(557, 600), span(0, 61)} {
		if got, e := sample.Together(l, api.SoBurnt, sum); len(got) != 0 || e != api.ErrClash {
			t.Error("P3.10:", sum, got, e)
		}
	}
}

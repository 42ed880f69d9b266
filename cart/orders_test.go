package cart_test

import (
	"math"
	"math/rand/v2"
	"slices"
	"testing"

	"calx/api"
	"calx/cart"
)

func TestExampleOrders(t *testing.T) {
	// Two orders that are worth the same want a bay; a third one has one of its own, and no bay suits the last one.
	ties := yard([]api.Bay{bay(1, 10, 3), bay(2, 20, 3)}, order(9, 10, 10, 0, 5), order(4, 10, 10, 3, 5), order(6, 20, 20, 0, 1), order(5, 10, 10, 4, 1000), order(3, 10, 10, 0, 4))
	// Two orders share two bays with a third one, which is worth less; the IDs are not in the order of the orders.
	three := yard([]api.Bay{bay(2, 10, 3), bay(1, 11, 3)}, order(30, 10, 11, 0, 2), order(20, 10, 11, 0, 3), order(10, 10, 11, 0, 3))
	for _, x := range []struct {
		name         string
		y            api.Yard
		sure, nevers []int
	}{
		{"of the chapter", exampleYard(), []int{7, 8}, []int{9}},
		{"nothing", api.Yard{}, nil, nil},
		{"no bay", yard(nil, order(2, 0, 9, 0, 5), order(1, 0, 9, 0, 5)), nil, []int{1, 2}},
		{"no order", yard([]api.Bay{bay(1, 1, 1)}), nil, nil},
		{"ties", ties, []int{6}, []int{3, 5}},
		{"three", three, []int{10, 20}, []int{30}},
		{"the greatest worth", yard([]api.Bay{bay(1, 1, 1)}, order(2, 1, 1, 1, api.MaxWorth), order(1, 1, 1, 1, api.MaxWorth)), nil, nil},
		{"the greatest worth, and one less", yard([]api.Bay{bay(1, 1, 1)}, order(2, 1, 1, 1, api.MaxWorth-1), order(1, 1, 1, 1, api.MaxWorth)), []int{1}, []int{2}},
	} {
		if l, e := cart.Surely(x.y); e != api.OK || !slices.Equal(l, x.sure) {
			t.Error("P5.9: Surely:", x.name, l, e)
		}
		if l, e := cart.Never(x.y); e != api.OK || !slices.Equal(l, x.nevers) {
			t.Error("P5.9: Never:", x.name, l, e)
		}
	}
}

func TestOrders(t *testing.T) {
	sure, nevers := 0, 0
	manyYards(t, 6, 500, func(t *testing.T, r *rand.Rand, y api.Yard, s sets) {
		best, all, some := s.best()
		surely, e := cart.Surely(y)
		if e != api.OK || !slices.Equal(surely, s.ids(all)) {
			t.Fatal("P5.9: Surely:", surely, e, s.ids(all))
		}
		never, e := cart.Never(y)
		if e != api.OK || !slices.Equal(never, s.ids(^some)) {
			t.Fatal("P5.9: Never:", never, e, s.ids(^some))
		}
		sure += len(surely)
		nevers += len(never)
		for _, x := range y.Orders {
			n, e := cart.Worth(lessOrder(y, x.ID))
			if e != api.OK || slices.Contains(surely, x.ID) != (n < best) || slices.Contains(never, x.ID) && n != best {
				t.Fatal("P5.16: without an order:", x, n, e, best)
			}
		}
		p, _ := cart.Serve(y)
		for range 20 {
			q := changedPlan(r, y, p)
			if cart.CheckPlan(y, q) != api.OK {
				continue
			}
			p = q
			if set := servedBy(q.Given); set&all != all || set&^some != 0 {
				t.Fatal("P5.16: a best plan serves others:", q, surely, never)
			}
		}
	})
	if min(sure, nevers) < 500 {
		t.Error("too few orders of a sort:", sure, nevers)
	}
}

func TestExampleCrowded(t *testing.T) {
	y := exampleYard()
	for _, x := range []struct {
		ids, want []int
		e         api.Errno
	}{
		{[]int{7, 8, 9}, []int{8, 9}, api.OK}, {[]int{8, 9}, []int{8, 9}, api.OK},
		{[]int{7, 8}, nil, api.ErrNone}, {[]int{7, 9}, nil, api.ErrNone}, {[]int{9}, nil, api.ErrNone}, {nil, nil, api.ErrNone}, {[]int{}, nil, api.ErrNone},
		{[]int{9, 8}, nil, api.ErrArg}, {[]int{8, 8, 9}, nil, api.ErrArg}, {[]int{7, 9, 8}, nil, api.ErrArg}, {[]int{7, 7}, nil, api.ErrArg},
		{[]int{1}, nil, api.ErrArg}, {[]int{8, 9, 10}, nil, api.ErrArg}, {[]int{0, 8, 9}, nil, api.ErrArg}, {[]int{math.MinInt, 8, 9}, nil, api.ErrArg}, {make([]int, 1000), nil, api.ErrArg},
	} {
		if l, e := cart.Crowded(y, x.ids); e != x.e || !slices.Equal(l, x.want) {
			t.Error("P5.10:", x, l, e)
		}
	}
	// Of two crowds, the one with the greater IDs is left; the orders do not stand in the order of their IDs.
	y = yard([]api.Bay{bay(1, 10, 9), bay(2, 20, 9)}, order(5, 10, 10, 0, 1), order(4, 20, 20, 0, 2), order(3, 10, 10, 0, 3), order(2, 20, 20, 0, 4), order(1, 10, 20, 0, 5))
	for _, x := range []struct{ ids, want []int }{
		{[]int{1, 2, 3, 4, 5}, []int{3, 5}}, {[]int{1, 2, 3, 4}, []int{2, 4}}, {[]int{1, 2, 3}, []int{1, 2, 3}}, {[]int{1, 2, 5}, []int{1, 2, 5}},
	} {
		if l, e := cart.Crowded(y, x.ids); e != api.OK || !slices.Equal(l, x.want) {
			t.Error("P5.10:", x, l, e)
		}
	}
	// An order that no bay suits is a crowd of its own.
	y = yard([]api.Bay{bay(1, 10, 9)}, order(1, 10, 10, 0, 1), order(2, 10, 10, 0, 1), order(3, 11, 11, 0, 1))
	if l, e := cart.Crowded(y, []int{1, 2, 3}); e != api.OK || !slices.Equal(l, []int{3}) {
		t.Error("P5.10:", l, e)
	}
	if l, e := cart.Crowded(yard(nil, order(1, 10, 10, 0, 1)), []int{1}); e != api.OK || !slices.Equal(l, []int{1}) {
		t.Error("P5.10:", l, e)
	}
}

func TestCrowded(t *testing.T) {
	crowds, not, great := 0, 0, 0
	manyYards(t, 7, 500, func(t *testing.T, r *rand.Rand, y api.Yard, s sets) {
		for range 5 {
			set := r.IntN(len(s.can))
			ids := s.ids(set)
			l, e := cart.Crowded(y, ids)
			if s.can[set] {
				not++
				if e != api.ErrNone || len(l) != 0 {
					t.Fatal("P5.10: Crowded:", ids, l, e)
				}
				continue
			}
			crowds++
			for _, id := range ids {
				if less := set &^ s.set([]int{id}); !s.can[less] {
					set = less
				}
			}
			if e != api.OK || !slices.Equal(l, s.ids(set)) {
				t.Fatal("P5.10: Crowded:", ids, l, e, s.ids(set))
			}
			if len(l) > 2 {
				great++
			}
			bays := 0
			for _, b := range y.Bays {
				if slices.ContainsFunc(y.Orders, func(x api.Order) bool { return slices.Contains(l, x.ID) && isFor(b, x) }) {
					bays++
				}
			}
			if bays >= len(l) {
				t.Fatal("P5.17: there are bays enough:", l, bays)
			}
			for i := range l {
				if !s.can[s.set(slices.Delete(slices.Clone(l), i, i+1))] {
					t.Fatal("P5.17: all but one are crowded, too:", l, i)
				}
			}
		}
	})
	if min(crowds, not) < 500 || great < 50 {
		t.Error("too few crowds:", crowds, not, great)
	}
}

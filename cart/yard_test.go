package cart_test

import (
	"math"
	"math/rand/v2"
	"slices"
	"testing"

	"calx/api"
	"calx/cart"
)

func TestCheckYard(t *testing.T) {
	b, x := bay(1, 10, 3), order(1, 10, 11, 3, 5)
	bays := func(l ...api.Bay) api.Yard { return yard(l) }
	orders := func(l ...api.Order) api.Yard { return yard(nil, l...) }
	full := greatYard(1)
	type test struct {
		name string
		y    api.Yard
		want api.Errno
	}
	tests := []test{
		{"example", exampleYard(), api.OK},
		{"nothing", api.Yard{}, api.OK},
		{"most bays and orders", full, api.OK},
		{"too many bays", yard(append(slices.Clone(full.Bays), bay(99, 1, 1))), api.ErrLimit},
		{"too many orders", moreOrders(full, order(99, 1, 1, 1, 1)), api.ErrLimit},
		{"too many orders ahead of a wrong bay", yard([]api.Bay{{}}, moreOrders(full, x).Orders...), api.ErrLimit},
		{"too many wrong bays", yard(make([]api.Bay, api.MaxBays+1)), api.ErrLimit},
		{"the same ID of a bay and an order", yard([]api.Bay{b}, x), api.OK},
		{"a bay twice", bays(b, bay(2, 0, 0), bay(1, 0, 0)), api.ErrTwice},
		{"an order twice", orders(x, order(2, 0, 0, 0, 1), order(1, 0, 0, 0, 1)), api.ErrTwice},
		{"a bay twice, and wrong", bays(b, bay(1, -1, 0)), api.ErrArg},
		{"an order twice, and wrong", orders(x, order(1, 0, 0, 0, 0)), api.ErrArg},
		{"a bay twice ahead of a wrong one", bays(b, b, api.Bay{}), api.ErrTwice},
		{"a wrong bay ahead of one twice", bays(b, api.Bay{}, b), api.ErrArg},
		{"an order twice ahead of a wrong one", orders(x, x, api.Order{}), api.ErrTwice},
		{"a wrong order ahead of one twice", orders(x, api.Order{}, x), api.ErrArg},
		{"a bay twice ahead of a wrong order", yard([]api.Bay{b, b}, api.Order{}), api.ErrTwice},
		{"a wrong bay ahead of an order twice", yard([]api.Bay{{}}, x, x), api.ErrArg},
	}
	number := func(at func(y *api.Yard) *int, n int, want api.Errno) {
		y := yard([]api.Bay{bay(3, 1, 1), b}, order(3, 1, 2, 1, 1), x)
		*at(&y) = n
		tests = append(tests, test{"a number", y, want})
	}
	for _, n := range []int{math.MinInt, -1, math.MaxInt} {
		for _, at := range []func(y *api.Yard) *int{
			func(y *api.Yard) *int { return &y.Bays[1].ID }, func(y *api.Yard) *int { return &y.Bays[1].Hour }, func(y *api.Yard) *int { return &y.Bays[1].Grade },
			func(y *api.Yard) *int { return &y.Orders[1].ID }, func(y *api.Yard) *int { return &y.Orders[1].Hours.Lo }, func(y *api.Yard) *int { return &y.Orders[1].Hours.Hi },
			func(y *api.Yard) *int { return &y.Orders[1].Grade }, func(y *api.Yard) *int { return &y.Orders[1].Worth },
		} {
			number(at, n, api.ErrArg)
		}
	}
	for _, x := range []struct {
		at          func(y *api.Yard) *int
		least, most int
	}{
		{func(y *api.Yard) *int { return &y.Bays[1].ID }, 1, api.MaxID}, {func(y *api.Yard) *int { return &y.Bays[1].Hour }, 0, api.MaxHour}, {func(y *api.Yard) *int { return &y.Bays[1].Grade }, 0, api.MaxGrade},
		{func(y *api.Yard) *int { return &y.Orders[1].ID }, 1, api.MaxID}, {func(y *api.Yard) *int { return &y.Orders[1].Hours.Lo }, 0, 11}, {func(y *api.Yard) *int { return &y.Orders[1].Hours.Hi }, 10, api.MaxHour},
		{func(y *api.Yard) *int { return &y.Orders[1].Grade }, 0, api.MaxGrade}, {func(y *api.Yard) *int { return &y.Orders[1].Worth }, 1, api.MaxWorth},
	} {
		number(x.at, x.least, api.OK)
		number(x.at, x.least-1, api.ErrArg)
		number(x.at, x.most, api.OK)
		number(x.at, x.most+1, api.ErrArg)
	}
	for _, x := range tests {
		if e := cart.CheckYard(x.y); e != x.want {
			t.Error("P5.7:", x.name, x.y, e)
		}
		if x.want != api.OK {
			checkWrongYard(t, x.y, x.want)
		}
	}
}

// checkWrongYard: all functions return the error of the yard first, and nothing else.
func checkWrongYard(t *testing.T, y api.Yard, want api.Errno) {
	t.Helper()
	is, e := cart.Suits(y, 0, 0)
	if is || e != want {
		t.Error("P5.7: Suits:", y, is, e)
	}
	if p, e := cart.Serve(y); !equalPlans(p, api.Plan{}) || e != want {
		t.Error("P5.7: Serve:", y, p, e)
	}
	if e := cart.CheckPlan(y, api.Plan{Worth: 1}); e != want {
		t.Error("P5.7: CheckPlan:", y, e)
	}
	if n, e := cart.Worth(y); n != 0 || e != want {
		t.Error("P5.7: Worth:", y, n, e)
	}
	if l, e := cart.Surely(y); len(l) != 0 || e != want {
		t.Error("P5.7: Surely:", y, l, e)
	}
	if l, e := cart.Never(y); len(l) != 0 || e != want {
		t.Error("P5.7: Never:", y, l, e)
	}
	if l, e := cart.Crowded(y, []int{0}); len(l) != 0 || e != want {
		t.Error("P5.7: Crowded:", y, l, e)
	}
	if p, e := cart.Later(y, api.Plan{Worth: 1}, api.Order{}); !equalPlans(p, api.Plan{}) || e != want {
		t.Error("P5.7: Later:", y, p, e)
	}
	if n, e := cart.Lost(y, 0); n != 0 || e != want {
		t.Error("P5.7: Lost:", y, n, e)
	}
}

func TestExampleSuits(t *testing.T) {
	y := exampleYard()
	for _, x := range []struct {
		order, bay int
		want       bool
		e          api.Errno
	}{
		{7, 1, true, api.OK}, {7, 2, true, api.OK}, {8, 1, false, api.OK}, {8, 2, true, api.OK}, {9, 1, false, api.OK}, {9, 2, true, api.OK},
		{1, 7, false, api.ErrNone}, {7, 3, false, api.ErrNone}, {10, 1, false, api.ErrNone}, {7, 0, false, api.ErrNone}, {0, 0, false, api.ErrNone}, {-1, 1, false, api.ErrNone},
	} {
		if is, e := cart.Suits(y, x.order, x.bay); is != x.want || e != x.e {
			t.Error("P5.7:", x, is, e)
		}
	}
	for _, x := range []struct {
		b    api.Bay
		want bool
	}{
		{bay(1, 10, 4), true}, {bay(1, 12, 4), true}, {bay(1, 11, 9), true}, {bay(1, 9, 9), false}, {bay(1, 13, 9), false}, {bay(1, 11, 3), false}, {bay(1, 11, 0), false},
	} {
		if is, e := cart.Suits(yard([]api.Bay{x.b}, order(1, 10, 12, 4, 1)), 1, 1); is != x.want || e != api.OK {
			t.Error("P5.7:", x, is, e)
		}
	}
}

func TestSuits(t *testing.T) {
	manyYards(t, 1, 200, func(t *testing.T, r *rand.Rand, y api.Yard, s sets) {
		for _, b := range y.Bays {
			for _, x := range y.Orders {
				if is, e := cart.Suits(y, x.ID, b.ID); is != isFor(b, x) || e != api.OK {
					t.Fatal("P5.7: Suits:", x, b, is, e)
				}
			}
		}
	})
}

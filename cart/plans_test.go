package cart_test

import (
	"math"
	"math/bits"
	"math/rand/v2"
	"slices"
	"testing"

	"calx/api"
	"calx/cart"
)

func TestExamplePlan(t *testing.T) {
	y := exampleYard()
	if n, e := cart.Worth(y); n != 14 || e != api.OK {
		t.Error("P5.8:", n, e)
	}
	p, e := cart.Serve(y)
	if e != api.OK || !slices.Equal(p.Given, []int{1, 2, 0}) || p.Worth != 14 || !isBest(y, p) {
		t.Error("P5.8:", p, e)
	}
	for _, x := range []struct {
		name   string
		given  []int
		worth  int
		prices []int
		want   api.Errno
	}{
		{"of the chapter", []int{1, 2, 0}, 14, []int{0, 7}, api.OK},
		{"greater prices", []int{1, 2, 0}, 14, []int{5, 9}, api.OK},
		{"another price of the first", []int{1, 2, 0}, 14, []int{3, 7}, api.OK},
		{"another price of the second", []int{1, 2, 0}, 14, []int{0, 8}, api.OK},
		{"too low a price", []int{1, 2, 0}, 14, []int{0, 6}, api.ErrProof},
		{"too high a price", []int{1, 2, 0}, 14, []int{6, 9}, api.ErrProof},
		{"too high a price of the second", []int{1, 2, 0}, 14, []int{0, 10}, api.ErrProof},
		{"no prices", []int{1, 2, 0}, 14, []int{0, 0}, api.ErrProof},
		{"a price below 0", []int{1, 2, 0}, 14, []int{-1, 7}, api.ErrProof},
		{"a price too few", []int{1, 2, 0}, 14, []int{0}, api.ErrProof},
		{"a price too many", []int{1, 2, 0}, 14, []int{0, 7, 0}, api.ErrProof},
		{"less worth", []int{1, 2, 0}, 13, []int{0, 7}, api.ErrProof},
		{"more worth", []int{1, 2, 0}, 15, []int{0, 8}, api.ErrProof},
		{"worth that the prices do not prove", []int{1, 2, 0}, 16, []int{6, 10}, api.ErrProof},
		{"an order too few", []int{1, 2}, 14, []int{0, 7}, api.ErrProof},
		{"an order too many", []int{1, 2, 0, 0}, 14, []int{0, 7}, api.ErrProof},
		{"a bay twice", []int{2, 2, 0}, 14, []int{0, 7}, api.ErrProof},
		{"a bay that does not suit", []int{2, 1, 0}, 14, []int{0, 7}, api.ErrProof},
		{"no bay", []int{3, 2, 0}, 14, []int{0, 7}, api.ErrProof},
		{"a bay below 0", []int{-1, 2, 0}, 14, []int{0, 7}, api.ErrProof},
		{"no best plan", []int{1, 0, 2}, 12, []int{0, 7}, api.ErrProof},
		{"a plan of which the prices say what it is worth", []int{1, 0, 2}, 12, []int{0, 5}, api.ErrProof},
		{"nobody is served", []int{0, 0, 0}, 0, []int{0, 0}, api.ErrProof},
	} {
		p := api.Plan{Given: x.given, Worth: x.worth, Prices: x.prices}
		if e := cart.CheckPlan(y, p); e != x.want {
			t.Error("P5.8:", x.name, e)
		}
		if (x.want == api.OK) != isBest(y, p) {
			t.Error("P5.8: by hand:", x.name)
		}
	}
}

// TestFewPlans: yards without bays, without orders, and with an order that no bay suits.
func TestFewPlans(t *testing.T) {
	one := []api.Bay{bay(1, 10, 3)}
	for _, x := range []struct {
		name string
		y    api.Yard
		p    api.Plan
		want api.Errno
	}{
		{"nothing", api.Yard{}, api.Plan{}, api.OK},
		{"nothing, not nil", api.Yard{}, api.Plan{Given: []int{}, Prices: []int{}}, api.OK},
		{"nothing, and a worth", api.Yard{}, api.Plan{Worth: 1}, api.ErrProof},
		{"no order", yard(one), api.Plan{Prices: []int{0}}, api.OK},
		{"no order, and a price", yard(one), api.Plan{Prices: []int{1}}, api.ErrProof},
		{"no bay", yard(nil, order(1, 0, 9, 0, 5)), api.Plan{Given: []int{0}}, api.OK},
		{"no bay that suits", yard(one, order(1, 0, 9, 0, 5)), api.Plan{Given: []int{0}, Prices: []int{0}}, api.OK},
		{"a bay that does not suit", yard(one, order(1, 0, 9, 0, 5)), api.Plan{Given: []int{1}, Worth: 5, Prices: []int{5}}, api.ErrProof},
		{"the greatest worth", yard(one, order(1, 10, 10, 3, api.MaxWorth)), api.Plan{Given: []int{1}, Worth: api.MaxWorth, Prices: []int{api.MaxWorth}}, api.OK},
		{"the greatest worth, and no price", yard(one, order(1, 10, 10, 3, api.MaxWorth)), api.Plan{Given: []int{1}, Worth: api.MaxWorth, Prices: []int{0}}, api.OK},
		{"too great a price", yard(one, order(1, 10, 10, 3, api.MaxWorth)), api.Plan{Given: []int{1}, Worth: api.MaxWorth, Prices: []int{api.MaxWorth + 1}}, api.ErrProof},
		{"far too great prices", yard([]api.Bay{bay(1, 10, 3), bay(2, 10, 3), bay(3, 10, 3)}), api.Plan{Prices: []int{math.MaxInt, math.MaxInt, 2}}, api.ErrProof},
		{"prices with a sum of 0", yard(append(one, bay(2, 10, 3))), api.Plan{Prices: []int{math.MinInt, math.MinInt}}, api.ErrProof},
		{"another price below 0", yard(append(one, bay(2, 10, 3))), api.Plan{Prices: []int{5, -5}}, api.ErrProof},
	} {
		if e := cart.CheckPlan(x.y, x.p); e != x.want {
			t.Error("P5.8:", x.name, e)
		}
		p, e := cart.Serve(x.y)
		if e != api.OK || !isBest(x.y, p) {
			t.Error("P5.8:", x.name, p, e)
		}
	}
}

// changedPlan is a plan in which something is another number.
func changedPlan(r *rand.Rand, y api.Yard, p api.Plan) api.Plan {
	p.Given, p.Prices = slices.Clone(p.Given), slices.Clone(p.Prices)
	for range 1 + r.IntN(3) {
		switch n := r.IntN(4); {
		case n == 0 && len(p.Prices) > 0:
			p.Prices[r.IntN(len(p.Prices))] += []int{-1, 1, 1, -7}[r.IntN(4)]
		case n == 1 && len(p.Given) > 1:
			i, k := r.IntN(len(p.Given)), r.IntN(len(p.Given))
			p.Given[i], p.Given[k] = p.Given[k], p.Given[i]
		case n == 2 && len(p.Given) > 0 && len(y.Bays) > 0:
			p.Given[r.IntN(len(p.Given))] = y.Bays[r.IntN(len(y.Bays))].ID
		case n == 3 && len(p.Given) > 0:
			p.Given[r.IntN(len(p.Given))] = 0
		}
	}
	p.Worth = 0
	for i, id := range p.Given {
		if id != 0 {
			p.Worth += y.Orders[i].Worth
		}
	}
	return p
}

func TestPlans(t *testing.T) {
	accepted, refused := 0, 0
	manyYards(t, 2, 600, func(t *testing.T, r *rand.Rand, y api.Yard, s sets) {
		best, _, _ := s.best()
		if n, e := cart.Worth(y); n != best || e != api.OK {
			t.Fatal("P5.8: Worth:", n, e, best)
		}
		p, e := cart.Serve(y)
		if e != api.OK || p.Worth != best || !isBest(y, p) {
			t.Fatal("P5.8: Serve:", p, e, best)
		}
		if e := cart.CheckPlan(y, p); e != api.OK {
			t.Fatal("P5.15: CheckPlan:", p, e)
		}
		for range 20 {
			q := changedPlan(r, y, p)
			want := api.ErrProof
			if isBest(y, q) {
				want = api.OK
				accepted++
				if q.Worth != best {
					t.Fatal("P5.15: what is proved is no best plan:", q, best)
				}
			} else {
				refused++
			}
			if e := cart.CheckPlan(y, q); e != want {
				t.Fatal("P5.8: CheckPlan:", q, e, want)
			}
			q = p
			q.Worth += 1 - 2*r.IntN(2)
			if e := cart.CheckPlan(y, q); e != api.ErrProof {
				t.Fatal("P5.8: another worth:", q, e)
			}
		}
	})
	if min(accepted, refused) < 1000 {
		t.Error("too few plans of a sort:", accepted, refused)
	}
}

func TestExampleLost(t *testing.T) {
	y := exampleYard()
	for _, x := range []struct {
		bay, want int
		e         api.Errno
	}{{1, 5, api.OK}, {2, 9, api.OK}, {3, 0, api.ErrNone}, {7, 0, api.ErrNone}, {0, 0, api.ErrNone}, {math.MinInt, 0, api.ErrNone}} {
		if n, e := cart.Lost(y, x.bay); n != x.want || e != x.e {
			t.Error("P5.11:", x, n, e)
		}
	}
}

// TestLost: what is lost by a bay, and that no price of it is greater. Prices of just what is lost prove a best plan, too.
func TestLost(t *testing.T) {
	proofs, lost := 0, 0
	manyYards(t, 3, 400, func(t *testing.T, r *rand.Rand, y api.Yard, s sets) {
		best, _, _ := s.best()
		p, _ := cart.Serve(y)
		most := api.Plan{Given: p.Given, Worth: p.Worth}
		for i, b := range y.Bays {
			less, _, _ := setsOf(lessBay(y, b.ID)).best()
			n, e := cart.Lost(y, b.ID)
			if n != best-less || e != api.OK {
				t.Fatal("P5.11: Lost:", b, n, e)
			}
			if n < p.Prices[i] {
				t.Fatal("P5.18: less is lost than the price:", b, n, p.Prices)
			}
			if n > 0 {
				lost++
			}
			most.Prices = append(most.Prices, n)
		}
		if e := cart.CheckPlan(y, most); e != api.OK {
			t.Fatal("P5.8: CheckPlan:", most, e)
		}
		for range 20 {
			q := changedPlan(r, y, []api.Plan{p, most}[r.IntN(2)])
			if cart.CheckPlan(y, q) != api.OK {
				continue
			}
			proofs++
			for i := range y.Bays {
				if q.Prices[i] > most.Prices[i] {
					t.Fatal("P5.18: less is lost than a price that proves:", q, most)
				}
			}
		}
	})
	if proofs < 1000 || lost < 500 {
		t.Error("too few proofs:", proofs, lost)
	}
}

// TestMore: with a further order or bay, a best plan is not worth less.
func TestMore(t *testing.T) {
	manyYards(t, 4, 400, func(t *testing.T, r *rand.Rand, y api.Yard, s sets) {
		best, _, _ := s.best()
		greatest := 0
		for _, x := range y.Orders {
			greatest = max(greatest, x.Worth)
		}
		hour := 0
		if len(y.Bays) > 0 {
			hour = y.Bays[0].Hour
		}
		further := yard(append(slices.Clone(y.Bays), bay(99, hour, r.IntN(10))), y.Orders...)
		if n, e := cart.Worth(further); e != api.OK || n < best || n > best+greatest {
			t.Fatal("P5.18: with a further bay:", n, e, best)
		}
		x := order(99, max(hour-3, 0), hour, r.IntN(10), 1+r.IntN(9))
		if n, e := cart.Worth(moreOrders(y, x)); e != api.OK || n < best || n > best+x.Worth {
			t.Fatal("P5.18: with a further order:", n, e, best)
		}
	})
}

func TestExampleLater(t *testing.T) {
	y := exampleYard()
	y.Orders = y.Orders[:2]
	p := api.Plan{Given: []int{1, 2}, Worth: 14, Prices: []int{0, 0}}
	for _, x := range []struct {
		name  string
		order api.Order
		given []int
	}{
		{"no bay suits it", order(9, 12, 20, 0, 1000), []int{1, 2, 0}},
		{"it is worth too little", order(9, 10, 11, 4, 7), []int{1, 2, 0}},
		{"it is worth more than all", order(9, 10, 11, 4, 10), []int{1, 0, 2}},
		{"it is worth more than one", order(9, 10, 10, 1, 6), []int{0, 2, 1}},
		{"it can have either bay", order(9, 10, 11, 1, 6), []int{0, 2, 1}},
	} {
		q, e := cart.Later(y, p, x.order)
		if e != api.OK || !slices.Equal(q.Given, x.given) || !isBest(moreOrders(y, x.order), q) {
			t.Error("P5.11:", x.name, q, e)
		}
	}
	// The order that has the bay hands it on: all are served.
	y.Bays = append(y.Bays, bay(3, 10, 9))
	p.Prices = []int{0, 0, 0}
	q, e := cart.Later(y, p, order(9, 10, 10, 3, 1))
	if e != api.OK || slices.Contains(q.Given, 0) || !isBest(moreOrders(y, order(9, 10, 10, 3, 1)), q) {
		t.Error("P5.11:", q, e)
	}
	// One who would do without is found behind two others.
	chain := yard([]api.Bay{bay(1, 1, 0), bay(2, 2, 0), bay(3, 3, 0)}, order(1, 1, 2, 0, 8), order(2, 2, 3, 0, 9), order(3, 3, 3, 0, 4))
	p = api.Plan{Given: []int{1, 2, 3}, Worth: 21, Prices: []int{0, 0, 0}}
	for worth, given := range map[int][]int{3: {1, 2, 3, 0}, 5: {2, 3, 0, 1}} {
		x := order(4, 1, 1, 0, worth)
		if q, e := cart.Later(chain, p, x); e != api.OK || !slices.Equal(q.Given, given) || !isBest(moreOrders(chain, x), q) {
			t.Error("P5.11:", worth, q, e)
		}
	}
}

func TestLaterErrors(t *testing.T) {
	y := exampleYard()
	p, _ := cart.Serve(y)
	wrong := p
	wrong.Worth++
	full := greatYard(3)
	served, _ := cart.Serve(full)
	good := order(10, 10, 11, 3, 5)
	for _, x := range []struct {
		name string
		y    api.Yard
		p    api.Plan
		x    api.Order
		want api.Errno
	}{
		{"good", y, p, good, api.OK},
		{"no best plan", y, wrong, good, api.ErrState},
		{"no plan", y, api.Plan{}, good, api.ErrState},
		{"no plan, and no order", y, api.Plan{}, api.Order{}, api.ErrState},
		{"no plan, and too many orders", full, api.Plan{}, good, api.ErrState},
		{"a plan of all orders", y, api.Plan{Given: append(slices.Clone(p.Given), 0), Worth: p.Worth, Prices: p.Prices}, good, api.ErrState},
		{"too many orders", full, served, order(61, 1, 1, 1, 1), api.ErrLimit},
		{"too many orders ahead of a wrong one", full, served, api.Order{}, api.ErrLimit},
		{"a wrong order", y, p, api.Order{}, api.ErrArg},
		{"a wrong order that is there already", y, p, order(7, 5, 4, 1, 1), api.ErrArg},
		{"there already", y, p, order(7, 10, 11, 3, 5), api.ErrTwice},
		{"of a bay's ID", y, p, order(1, 10, 11, 3, 5), api.OK},
	} {
		q, e := cart.Later(x.y, x.p, x.x)
		if e != x.want || e != api.OK && !equalPlans(q, api.Plan{}) {
			t.Error("P5.11:", x.name, q, e)
		}
	}
}

// checkLater: a plan serves what another one does, but one order at most, and of others the further one only.
func checkLater(t *testing.T, y api.Yard, p api.Plan, x api.Order) api.Plan {
	t.Helper()
	q, e := cart.Later(y, p, x)
	more := moreOrders(y, x)
	if e != api.OK || !isBest(more, q) {
		t.Fatal("P5.11: Later:", p, x, q, e)
	}
	if e := cart.CheckPlan(more, q); e != api.OK {
		t.Fatal("P5.15: CheckPlan:", q, e)
	}
	if n, e := cart.Worth(more); n != q.Worth || e != api.OK {
		t.Fatal("P5.11: a plan is worth more:", p, x, q, n, e)
	}
	old, now := servedBy(p.Given), servedBy(q.Given)
	if now&^old&^(1<<len(y.Orders)) != 0 || bits.OnesCount(uint(old&^now)) > 1 {
		t.Fatal("P5.11: others are served:", p, x, q)
	}
	return q
}

func TestLater(t *testing.T) {
	served, instead, not := 0, 0, 0
	manyYards(t, 5, 600, func(t *testing.T, r *rand.Rand, y api.Yard, s sets) {
		p, _ := cart.Serve(y)
		for range 5 {
			if q := changedPlan(r, y, p); isBest(y, q) {
				p = q
			}
			base := 0
			if len(y.Bays) > 0 {
				base = max(y.Bays[0].Hour-2, 0)
			}
			x := chanceOrder(r, 99, min(base, api.MaxHour-6), 6, []int{2, 9, api.MaxWorth}[r.IntN(3)])
			q := checkLater(t, y, p, x)
			best, _, _ := setsOf(moreOrders(y, x)).best()
			if q.Worth != best {
				t.Fatal("P5.11: Later:", x, q, best)
			}
			switch n := len(y.Orders); {
			case q.Given[n] == 0:
				not++
			case bits.OnesCount(uint(servedBy(q.Given))) > bits.OnesCount(uint(servedBy(p.Given))):
				served++
			default:
				instead++
			}
		}
	})
	if min(served, instead, not) < 100 {
		t.Error("too few orders of a sort:", served, instead, not)
	}
}

// TestOneByOne: orders that come one after the other are served as well as all at once.
func TestOneByOne(t *testing.T) {
	for seed := range uint64(10) {
		y := greatYard(seed)
		all := y.Orders
		y.Orders = nil
		p, _ := cart.Serve(y)
		for _, x := range all {
			p = checkLater(t, y, p, x)
			y = moreOrders(y, x)
		}
	}
}

// TestGreatYards: yards with all bays and orders there can be. What Serve proves is the measure of all else.
func TestGreatYards(t *testing.T) {
	worth := func(y api.Yard) int {
		p, e := cart.Serve(y)
		if e != api.OK || !isBest(y, p) || cart.CheckPlan(y, p) != api.OK {
			t.Fatal("P5.8: Serve:", y, p, e)
		}
		return p.Worth
	}
	sure, never, either := 0, 0, 0
	for seed := range uint64(20) {
		y := greatYard(seed)
		best := worth(y)
		if n, e := cart.Worth(y); n != best || e != api.OK {
			t.Fatal("P5.8: Worth:", n, e)
		}
		for _, b := range y.Bays {
			if n, e := cart.Lost(y, b.ID); n != best-worth(lessBay(y, b.ID)) || e != api.OK {
				t.Fatal("P5.11: Lost:", b, n, e)
			}
		}
		surely, e1 := cart.Surely(y)
		nevers, e2 := cart.Never(y)
		if e1 != api.OK || e2 != api.OK || !slices.IsSorted(surely) || !slices.IsSorted(nevers) {
			t.Fatal("P5.9:", surely, nevers, e1, e2)
		}
		for _, x := range y.Orders {
			less := lessOrder(y, x.ID)
			isSure, isNever := worth(less) < best, true
			for _, b := range y.Bays {
				if isFor(b, x) && x.Worth+worth(lessBay(less, b.ID)) == best {
					isNever = false
				}
			}
			if slices.Contains(surely, x.ID) != isSure || slices.Contains(nevers, x.ID) != isNever {
				t.Fatal("P5.9:", x, surely, nevers, isSure, isNever)
			}
			switch {
			case isSure:
				sure++
			case isNever:
				never++
			default:
				either++
			}
		}
	}
	if min(sure, never, either) < 20 {
		t.Error("too few orders of a sort:", sure, never, either)
	}
}

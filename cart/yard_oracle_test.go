package cart_test

import (
	"math/bits"
	"math/rand/v2"
	"slices"
	"testing"

	"calx/api"
	"calx/cart"
)

func bay(id, hour, grade int) api.Bay { return api.Bay{ID: id, Hour: hour, Grade: grade} }

func order(id, lo, hi, grade, worth int) api.Order {
	return api.Order{ID: id, Hours: span(lo, hi), Grade: grade, Worth: worth}
}

func yard(bays []api.Bay, orders ...api.Order) api.Yard {
	return api.Yard{Bays: bays, Orders: orders}
}

// exampleYard is the yard of the chapter's examples.
func exampleYard() api.Yard {
	return yard([]api.Bay{bay(1, 10, 3), bay(2, 11, 5)}, order(7, 10, 11, 3, 5), order(8, 11, 12, 4, 9), order(9, 10, 11, 4, 7))
}

// lessBay is a yard without a bay.
func lessBay(y api.Yard, id int) api.Yard {
	return yard(slices.DeleteFunc(slices.Clone(y.Bays), func(b api.Bay) bool { return b.ID == id }), y.Orders...)
}

// lessOrder is a yard without an order.
func lessOrder(y api.Yard, id int) api.Yard {
	return yard(y.Bays, slices.DeleteFunc(slices.Clone(y.Orders), func(x api.Order) bool { return x.ID == id })...)
}

func moreOrders(y api.Yard, more ...api.Order) api.Yard {
	return yard(y.Bays, slices.Concat(y.Orders, more)...)
}

func equalPlans(a, b api.Plan) bool {
	return slices.Equal(a.Given, b.Given) && a.Worth == b.Worth && slices.Equal(a.Prices, b.Prices)
}

func isFor(b api.Bay, x api.Order) bool {
	return x.Hours.Lo <= b.Hour && b.Hour <= x.Hours.Hi && x.Grade <= b.Grade
}

// sets is all sets of orders that can be served together, a bit for each order: those of which each part has at least as many bays that suit any of it.
type sets struct {
	yard api.Yard
	can  []bool
}

func setsOf(y api.Yard) sets {
	suiting := make([]uint64, len(y.Orders))
	for i, x := range y.Orders {
		for k, b := range y.Bays {
			if isFor(b, x) {
				suiting[i] |= 1 << k
			}
		}
	}
	s := sets{y, make([]bool, 1<<len(y.Orders))}
	for set := range s.can {
		var any uint64
		s.can[set] = true
		for i := range y.Orders {
			if set>>i&1 == 1 {
				any |= suiting[i]
				s.can[set] = s.can[set] && s.can[set&^(1<<i)]
			}
		}
		s.can[set] = s.can[set] && bits.OnesCount64(any) >= bits.OnesCount(uint(set))
	}
	return s
}

func (s sets) worth(set int) int {
	sum := 0
	for i, x := range s.yard.Orders {
		if set>>i&1 == 1 {
			sum += x.Worth
		}
	}
	return sum
}

// best is what a best plan is worth, the orders that all best plans serve, and those that some of them serve.
func (s sets) best() (worth, all, some int) {
	for set, can := range s.can {
		if !can {
			continue
		}
		switch x := s.worth(set); {
		case x > worth:
			worth, all, some = x, set, set
		case x == worth:
			all &= set
			some |= set
		}
	}
	return worth, all, some
}

// ids is the IDs of a set in increasing order.
func (s sets) ids(set int) []int {
	var l []int
	for i, x := range s.yard.Orders {
		if set>>i&1 == 1 {
			l = append(l, x.ID)
		}
	}
	slices.Sort(l)
	return l
}

// set is the orders with some IDs.
func (s sets) set(ids []int) int {
	set := 0
	for i, x := range s.yard.Orders {
		if slices.Contains(ids, x.ID) {
			set |= 1 << i
		}
	}
	return set
}

// servedBy is the set of the orders that have a bay.
func servedBy(given []int) int {
	set := 0
	for i, id := range given {
		if id != 0 {
			set |= 1 << i
		}
	}
	return set
}

// isBest is whether a plan is one, and its prices prove that it is a best one, as the chapter tells it.
func isBest(y api.Yard, p api.Plan) bool {
	if len(p.Given) != len(y.Orders) || len(p.Prices) != len(y.Bays) {
		return false
	}
	worth, proved := 0, 0
	for i, id := range p.Given {
		if id == 0 {
			continue
		}
		k := slices.IndexFunc(y.Bays, func(b api.Bay) bool { return b.ID == id })
		if k < 0 || slices.Contains(p.Given[:i], id) || !isFor(y.Bays[k], y.Orders[i]) {
			return false
		}
		worth += y.Orders[i].Worth
	}
	for _, price := range p.Prices {
		if price < 0 || price > api.MaxWorth {
			return false
		}
		proved += price
	}
	for _, x := range y.Orders {
		least := x.Worth
		for k, b := range y.Bays {
			if isFor(b, x) {
				least = min(least, p.Prices[k])
			}
		}
		proved += x.Worth - least
	}
	return worth == p.Worth && worth == proved
}

// chanceYard is a yard in which the orders want much the same bays.
func chanceYard(r *rand.Rand, bays, orders int) api.Yard {
	base := []int{0, 700, api.MaxHour - 12}[r.IntN(3)]
	hours := 2 + r.IntN(9)
	worths := []int{2, 3, 9, api.MaxWorth}[r.IntN(4)]
	var y api.Yard
	ids := r.Perm(60)
	for i := range bays {
		y.Bays = append(y.Bays, bay(ids[i]+1, base+r.IntN(hours), r.IntN(api.MaxGrade+1)))
	}
	ids = r.Perm(60)
	for i := range orders {
		y.Orders = append(y.Orders, chanceOrder(r, ids[i]+1, base, hours, worths))
	}
	return y
}

func chanceOrder(r *rand.Rand, id, base, hours, worths int) api.Order {
	lo := base + r.IntN(hours)
	return order(id, lo, min(lo+r.IntN(6), api.MaxHour), r.IntN(api.MaxGrade-2), 1+r.IntN(worths))
}

// manyYards calls a test with many yards, and with the sets of orders that can be served.
func manyYards(t *testing.T, seed uint64, count int, test func(t *testing.T, r *rand.Rand, y api.Yard, s sets)) {
	t.Helper()
	r := rand.New(rand.NewPCG(seed, 7))
	full, tight, ties := 0, 0, 0
	for i := range count {
		y := chanceYard(r, r.IntN(9), r.IntN(10))
		if i%40 == 0 {
			y = chanceYard(r, 4+r.IntN(8), 13)
		}
		if e := cart.CheckYard(y); e != api.OK {
			t.Fatal("P5.7: a right yard:", e, y)
		}
		s := setsOf(y)
		_, all, some := s.best()
		switch {
		case s.can[len(s.can)-1]:
			full++
		case all == some:
			tight++
		default:
			ties++
		}
		test(t, r, y, s)
		if t.Failed() {
			t.Fatalf("yard %d: %+v", i, y)
		}
	}
	if min(full, tight, ties) < count/12 {
		t.Error("too few yards of a sort:", full, tight, ties)
	}
}

// greatYard is a yard with as many bays and orders as can be.
func greatYard(seed uint64) api.Yard {
	r := rand.New(rand.NewPCG(seed, 8))
	return chanceYard(r, api.MaxBays, api.MaxOrders)
}

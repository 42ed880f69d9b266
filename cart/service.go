package cart

import (
	"slices"

	"calx/api"
)

// service is which orders of a yard have which bays.
type service struct {
	yard   api.Yard
	given  []int       // for each order, the ID of its bay, or 0
	holder map[int]int // the index of the order that has a bay, by the bay's ID
}

// idle returns a yard in which no order has a bay.
func idle(y api.Yard) *service {
	return &service{y, make([]int, len(y.Orders)), map[int]int{}}
}

// served returns a yard in which the first orders have given bays, or false if these are no plan of them.
func served(y api.Yard, given []int) (*service, bool) {
	s := idle(y)
	bays := byID(y.Bays, idOfBay)
	for i, id := range given {
		if id == 0 {
			continue
		}
		k, ok := bays[id]
		_, held := s.holder[id]
		if !ok || held || !suits(y.Bays[k], y.Orders[i]) {
			return nil, false
		}
		s.give(id, i)
	}
	return s, true
}

// bestOf returns a yard in which orders have bays by a best plan.
func bestOf(y api.Yard) *service {
	s := idle(y)
	for i := range y.Orders {
		s.add(i)
	}
	return s
}

// give gives a bay to an order.
func (s *service) give(bay, order int) {
	s.given[order] = bay
	s.holder[bay] = order
}

// quest is what came of the search for a bay for an order.
type quest struct {
	orders []int       // the order, and all that would have to do without their bays, or have others, if it had one
	wants  map[int]int // which of them a bay would be for, by the bay's ID
	free   int         // the ID of a bay that no order has, or 0
}

// seek searches for a bay for an order: one that no order has, or whose order could have such a one instead, and so on.
func (s *service) seek(order int) quest {
	q := quest{orders: []int{order}, wants: map[int]int{}}
	canHave := func(order int, b api.Bay) bool {
		_, wanted := q.wants[b.ID]
		return !wanted && suits(b, s.yard.Orders[order])
	}
search:
	for i := 0; i < len(q.orders); i++ {
		for _, b := range s.yard.Bays {
			if !canHave(q.orders[i], b) {
				continue
			}
			q.wants[b.ID] = q.orders[i]
			holder, held := s.holder[b.ID]
			if !held {
				q.free = b.ID
				break search
			}
			q.orders = append(q.orders, holder)
		}
	}
	return q
}

// pass gives a bay to the order that it would be for, the bay of that one to another one likewise, and so on, up to the order that had none.
func (s *service) pass(q quest, bay int) {
	for bay != 0 {
		order := q.wants[bay]
		left := s.given[order]
		s.give(bay, order)
		bay = left
	}
}

// add serves a further order, too, if all orders ahead of it are served by a best plan. If that cannot be, the one of least worth does without a bay, among those of which each one would do.
func (s *service) add(order int) {
	q := s.seek(order)
	if q.free != 0 {
		s.pass(q, q.free)
		return
	}
	least, _ := first(slices.Values(q.orders), func(a, b int) bool {
		return s.yard.Orders[a].Worth < s.yard.Orders[b].Worth
	})
	left := s.given[least]
	s.given[least] = 0
	s.pass(q, left)
}

// gain returns what an order adds to the worth of the plan.
func (s *service) gain(order int) int {
	if s.given[order] == 0 {
		return 0
	}
	return s.yard.Orders[order].Worth
}

// worth returns what the plan is worth.
func (s *service) worth() int { return sum(len(s.given), s.gain) }

// sum returns the sum of a number for each index.
func sum(count int, of func(i int) int) int {
	total := 0
	for i := range count {
		total += of(i)
	}
	return total
}

// prices returns, for each bay, the greatest worth of an order that has none, and that could have this one if one order did without. If the plan is a best one, no such order is worth more than that which has the bay.
func (s *service) prices() []int {
	prices := make([]int, len(s.yard.Bays))
	for i, x := range s.yard.Orders {
		if s.given[i] != 0 {
			continue
		}
		q := s.seek(i)
		for k, b := range s.yard.Bays {
			if _, wanted := q.wants[b.ID]; wanted {
				prices[k] = max(prices[k], x.Worth)
			}
		}
	}
	return prices
}

// plan returns the plan, if it is a best one, with prices that prove it.
func (s *service) plan() api.Plan {
	return api.Plan{Given: s.given, Worth: s.worth(), Prices: s.prices()}
}

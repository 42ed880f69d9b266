package cart

import (
	"slices"

	"calx/api"
)

// Surely returns the orders that are served in all best plans.
func Surely(y api.Yard) ([]int, api.Errno) {
	if e := CheckYard(y); e != api.OK {
		return nil, e
	}
	most := bestOf(y).worth()
	// A plan that does not serve an order is one of the yard without it.
	return ordersThat(y, func(i int) bool {
		return bestOf(api.Yard{Bays: y.Bays, Orders: but(y.Orders, i)}).worth() < most
	}), api.OK
}

// Never returns the orders that are served in no best plan.
func Never(y api.Yard) ([]int, api.Errno) {
	if e := CheckYard(y); e != api.OK {
		return nil, e
	}
	most := bestOf(y).worth()
	// A best plan that serves an order is worth more if the order is; by so little, no other plan gets ahead of it.
	return ordersThat(y, func(i int) bool {
		orders := slices.Clone(y.Orders)
		orders[i].Worth++
		return bestOf(api.Yard{Bays: y.Bays, Orders: orders}).worth() == most
	}), api.OK
}

// ordersThat returns the IDs of the orders for whose indices something holds, in increasing order.
func ordersThat(y api.Yard, holds func(i int) bool) []int {
	var ids []int
	for i, x := range y.Orders {
		if holds(i) {
			ids = append(ids, x.ID)
		}
	}
	slices.Sort(ids)
	return ids
}

// Crowded returns orders that cannot all be served together, though all but any one of them can.
func Crowded(y api.Yard, ids []int) ([]int, api.Errno) {
	if e := CheckYard(y); e != api.OK {
		return nil, e
	}
	indices := byID(y.Orders, idOfOrder)
	left := api.Yard{Bays: y.Bays}
	for i, id := range ids {
		k, ok := indices[id]
		if !ok || i > 0 && id <= ids[i-1] {
			return nil, api.ErrArg
		}
		left.Orders = append(left.Orders, y.Orders[k])
	}
	if servesAll(left) {
		return nil, api.ErrNone
	}
	for i := 0; i < len(left.Orders); {
		fewer := api.Yard{Bays: y.Bays, Orders: but(left.Orders, i)}
		if servesAll(fewer) {
			i++
		} else {
			left = fewer
		}
	}
	return ordersThat(left, func(int) bool { return true }), api.OK
}

// servesAll reports whether some plan serves all orders; if one does, it is the best one.
func servesAll(y api.Yard) bool { return !slices.Contains(bestOf(y).given, 0) }

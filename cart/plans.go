package cart

import (
	"slices"

	"calx/api"
)

// Serve returns a plan that is worth the most.
func Serve(y api.Yard) (api.Plan, api.Errno) {
	if e := CheckYard(y); e != api.OK {
		return api.Plan{}, e
	}
	return bestOf(y).plan(), api.OK
}

// CheckPlan returns OK if the prices of a plan prove that no plan is worth more.
func CheckPlan(y api.Yard, p api.Plan) api.Errno {
	if e := CheckYard(y); e != api.OK {
		return e
	}
	if len(p.Given) != len(y.Orders) || len(p.Prices) != len(y.Bays) || slices.ContainsFunc(p.Prices, isNoPrice) {
		return api.ErrProof
	}
	s, ok := served(y, p.Given)
	if !ok || s.worth() != p.Worth || p.Worth != bound(y, p.Prices) {
		return api.ErrProof
	}
	return api.OK
}

func isNoPrice(price int) bool { return !isWithin(price, 0, api.MaxWorth) }

// bound returns what no plan is worth more than, as prices show: in each plan, an order that is served is worth no more than the price of its bay, and what it is worth more than the least price.
func bound(y api.Yard, prices []int) int {
	price := func(bay int) int { return prices[bay] }
	above := func(order int) int {
		least, ok := first(suiting(y, y.Orders[order]), func(a, b int) bool { return price(a) < price(b) })
		if !ok {
			return 0
		}
		return max(y.Orders[order].Worth-price(least), 0)
	}
	return sum(len(y.Bays), price) + sum(len(y.Orders), above)
}

// Worth returns the most that a plan is worth.
func Worth(y api.Yard) (int, api.Errno) {
	if e := CheckYard(y); e != api.OK {
		return 0, e
	}
	return bestOf(y).worth(), api.OK
}

// Later returns a best plan with a further order, in which few orders have another bay than in a plan.
func Later(y api.Yard, p api.Plan, x api.Order) (api.Plan, api.Errno) {
	if e := CheckYard(y); e != api.OK {
		return api.Plan{}, e
	}
	if CheckPlan(y, p) != api.OK {
		return api.Plan{}, api.ErrState
	}
	more := api.Yard{Bays: y.Bays, Orders: slices.Concat(y.Orders, []api.Order{x})}
	if e := CheckYard(more); e != api.OK {
		return api.Plan{}, e
	}
	s, _ := served(more, p.Given)
	s.add(len(y.Orders))
	return s.plan(), api.OK
}

// Lost returns by how much less a yard is worth without a bay.
func Lost(y api.Yard, bay int) (int, api.Errno) {
	if e := CheckYard(y); e != api.OK {
		return 0, e
	}
	i, ok := byID(y.Bays, idOfBay)[bay]
	if !ok {
		return 0, api.ErrNone
	}
	less := api.Yard{Bays: but(y.Bays, i), Orders: y.Orders}
	return bestOf(y).worth() - bestOf(less).worth(), api.OK
}

package tally

import "calx/api"

// maxPrice is the greatest price of a tally; the least one is as far below 0.
const maxPrice = 1 << 20

// Best returns a cheapest way, with prices that prove it.
func Best(b api.Bundle) (api.Match, api.Errno) {
	if e := Check(b); e != api.OK {
		return api.Match{}, e
	}
	t := tableOf(b)
	m := cheapestWay(t)
	return api.Match{
		Given:  givenBy(b, m.way),
		Cost:   m.total(),
		Stocks: m.stocks.list(t.stocks),
		Foils:  m.foils.list(t.foils),
	}, api.OK
}

// CheckBest returns OK if prices prove that a way is a cheapest one.
func CheckBest(b api.Bundle, m api.Match) api.Errno {
	if e := Check(b); e != api.OK {
		return e
	}
	w, isWay := wayOf(b, m.Given)
	stocks, arePrices := pricesOf(m.Stocks, len(b.Stocks))
	foils, areMore := pricesOf(m.Foils, len(b.Foils))
	if !isWay || !arePrices || !areMore {
		return api.ErrProof
	}
	t := tableOf(b)
	price := pricesIn(&stocks, &foils)
	for p := range t.pairs() {
		if price(p) > t.cost(p) {
			return api.ErrProof
		}
	}
	if t.total(w) != m.Cost || sum(t.pairsOf(w), price) != m.Cost {
		return api.ErrProof
	}
	return api.OK
}

// pricesOf returns prices by numbers, or false unless they are so many, and each one is right.
func pricesOf(l []int, count int) (row, bool) {
	var r row
	if len(l) != count || !all(l, isPrice) {
		return r, false
	}
	copy(r[1:], l)
	return r, true
}

func isPrice(n int) bool { return isWithin(n, -maxPrice, maxPrice) }

// list returns the first numbers of a row, but that of none.
func (r row) list(count int) []int {
	l := make([]int, count)
	copy(l, r[1:])
	return l
}

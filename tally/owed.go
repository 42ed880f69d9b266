package tally

import "calx/api"

// scale is more than what all stocks of a bundle can be worth together: so a way that costs less stays cheaper, whatever the stocks are worth.
const scale = api.MaxTallies*api.MaxNotches*api.MaxNotch*api.MaxNotchIn + 1

// Owed returns what stocks are worth together that belong to foils of somebody, at least and at most in cheapest ways.
func Owed(b api.Bundle, who int) (api.Span, api.Errno) {
	if e := Check(b); e != api.OK {
		return api.Span{}, e
	}
	if !isPerson(who) {
		return api.Span{}, api.ErrArg
	}
	owed := func(p pair) int {
		if p.stock == 0 || p.foil == 0 || b.Foils[p.foil-1].Who != who {
			return 0
		}
		return worthOf(b, b.Stocks[p.stock-1], 0)
	}
	t := tableOf(b)
	end := func(sign int) int {
		weighed := t.weighed(func(p pair) int { return sign * owed(p) })
		return sum(t.pairsOf(cheapestWay(weighed).way), owed)
	}
	return api.Span{Lo: end(1), Hi: end(-1)}, api.OK
}

// weighed returns the table the cheapest ways of which are those of this one that have the least sum of some weights.
func (t *table) weighed(weight func(pair) int) *table {
	other := *t
	for p := range t.pairs() {
		other.costs[p.stock][p.foil] = scale*t.cost(p) + weight(p)
	}
	return &other
}

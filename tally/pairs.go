package tally

import (
	"iter"

	"calx/api"
)

// great is more than what any way costs. What costs so much less is in each cheapest way, and what costs so much more is in none, if there is another one.
const great = 1 << 40

// made returns what a cheapest one of all ways with a pair costs.
func (t *table) made(p pair) int {
	return cheapestWay(t.with(p, -great)).total() + great
}

// missed returns a cheapest one of all ways without a pair, or false if there is none.
func (t *table) missed(p pair) (way, bool) {
	m := cheapestWay(t.with(p, great))
	return m.way, m.total() < great
}

// checkAny returns the numbers of a stock and a foil, of which one may be none, or an error.
func checkAny(b api.Bundle, stock, foil int) (pair, api.Errno) {
	p, e := checkPair(b, stock, foil)
	if e != api.OK {
		return pair{}, e
	}
	if p == (pair{}) {
		return pair{}, api.ErrArg
	}
	return p, api.OK
}

// Made returns by how much the cheapest way with a pair is dearer.
func Made(b api.Bundle, stock, foil int) (int, api.Errno) {
	p, e := checkAny(b, stock, foil)
	if e != api.OK {
		return 0, e
	}
	t := tableOf(b)
	return t.made(p) - cheapestWay(t).total(), api.OK
}

// Missed returns by how much the cheapest way without a pair is dearer.
func Missed(b api.Bundle, stock, foil int) (int, api.Errno) {
	p, e := checkAny(b, stock, foil)
	if e != api.OK {
		return 0, e
	}
	t := tableOf(b)
	w, ok := t.missed(p)
	if !ok {
		return 0, api.ErrNone
	}
	return t.total(w) - cheapestWay(t).total(), api.OK
}

// Other returns a cheapest way of all but one.
func Other(b api.Bundle, given []int) ([]int, int, api.Errno) {
	if e := Check(b); e != api.OK {
		return nil, 0, e
	}
	w, ok := wayOf(b, given)
	if !ok {
		return nil, 0, api.ErrArg
	}
	t := tableOf(b)
	other, ok := cheapest(t.others(w), t.total)
	if !ok {
		return nil, 0, api.ErrNone
	}
	return givenBy(b, other), t.total(other), api.OK
}

// others yields, for each pair of a way, a cheapest one of all ways that miss it. Each other way misses one of them.
func (t *table) others(w way) iter.Seq[way] {
	return func(yield func(way) bool) {
		for p := range t.pairsOf(w) {
			if other, ok := t.missed(p); ok && !yield(other) {
				return
			}
		}
	}
}

// possible returns, for each stock by its number, the foils that it has in some cheapest way, and 0 if it is alone in one.
func (t *table) possible() [][]int {
	m := cheapestWay(t)
	least, price := m.total(), pricesIn(&m.stocks, &m.foils)
	lists := make([][]int, t.stocks+1)
	for p := range t.pairs() {
		// A pair that costs more than its price makes each way with it dearer by that at least.
		if p.stock != 0 && price(p) == t.cost(p) && t.made(p) == least {
			lists[p.stock] = append(lists[p.stock], p.foil)
		}
	}
	return lists
}

// Possible returns the pairs of some cheapest way.
func Possible(b api.Bundle) ([]api.Pair, api.Errno) {
	return pairsThat(b, func([]int) bool { return true })
}

// Sure returns the pairs of all cheapest ways.
func Sure(b api.Bundle) ([]api.Pair, api.Errno) {
	return pairsThat(b, func(foils []int) bool { return len(foils) == 1 })
}

// pairsThat returns the possible pairs of those stocks for whose possible foils something holds.
func pairsThat(b api.Bundle, holds func(foils []int) bool) ([]api.Pair, api.Errno) {
	if e := Check(b); e != api.OK {
		return nil, e
	}
	t := tableOf(b)
	lists := t.possible()
	var pairs []api.Pair
	for i, x := range b.Stocks {
		if !holds(lists[i+1]) {
			continue
		}
		for _, k := range lists[i+1] {
			pairs = append(pairs, api.Pair{Stock: x.ID, Foil: foilID(b, k)})
		}
	}
	return pairs, api.OK
}

// Lost returns the stocks, and the foils, that are alone in all cheapest ways.
func Lost(b api.Bundle) ([]int, []int, api.Errno) {
	possible, e := Possible(b)
	if e != api.OK {
		return nil, nil, e
	}
	isFound := map[int]bool{}
	for _, p := range possible {
		if p.Foil != 0 {
			isFound[p.Stock], isFound[p.Foil] = true, true
		}
	}
	return idsBut(b.Stocks, isFound), idsBut(b.Foils, isFound), api.OK
}

// idsBut returns the IDs of tallies, but some of them.
func idsBut(l []api.Tally, some map[int]bool) []int {
	var ids []int
	for _, x := range l {
		if !some[x.ID] {
			ids = append(ids, x.ID)
		}
	}
	return ids
}

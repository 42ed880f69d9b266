package tally

import (
	"iter"
	"math"
)

// prices tells what a stock and a foil are priced at together; none has the price 0.
type prices func(pair) int

// pricesIn returns the prices that stand in two arrays, also when these change.
func pricesIn(stocks, foils *row) prices {
	return func(p pair) int { return stocks[p.stock] + foils[p.foil] }
}

// match is a cheapest way of the first stocks and all foils, and the prices that prove it: none of a pair is above its cost, and each pair of the way has just its cost.
type match struct {
	table  *table
	way    way
	stocks row
	foils  row
}

// cheapestWay returns a cheapest way of a table.
func cheapestWay(t *table) *match {
	m := &match{table: t, foils: t.costs[0]}
	for stock := 1; stock <= t.stocks; stock++ {
		m.add(stock)
	}
	return m
}

// total returns the cost of the way.
func (m *match) total() int { return m.table.total(m.way) }

// add puts a further stock into the way, along the cheapest chain that begins at it.
func (m *match) add(stock int) {
	q := m.seek(stock)
	m.reprice(stock, q)
	for p := range m.chain(q) {
		m.way.give(p)
	}
}

// quest is what came of the search for a chain: by how much the cheapest one to each foil, and to none, is above the prices; which stock it would be for; whether it goes on behind it; and where the cheapest one of all ends.
type quest struct {
	above, wants row
	passed       [seats]bool
	end          int
}

// seek searches for the cheapest chain from a stock: to a foil that no stock has, to one whose stock could have another one instead, and so on, or could be alone.
func (m *match) seek(stock int) quest {
	price := pricesIn(&m.stocks, &m.foils)
	var q quest
	for k := range q.above {
		q.above[k] = math.MaxInt
	}
	ahead := 0
search:
	for {
		for k := range m.table.foils + 1 {
			p := pair{stock, k}
			above := ahead + m.table.cost(p) - price(p)
			if !q.passed[k] && above < q.above[k] {
				q.above[k], q.wants[k] = above, stock
			}
		}
		foil, _ := cheapest(m.open(&q), func(k int) int { return q.above[k] })
		switch holder := m.way.stockOf[foil]; holder {
		case 0:
			q.end = foil
			break search
		default:
			q.passed[foil] = true
			stock, ahead = holder, q.above[foil]
		}
	}
	return q
}

// open yields none, and the foils behind which a search has not gone on. None is always open: all stocks can be alone.
func (m *match) open(q *quest) iter.Seq[int] {
	return func(yield func(int) bool) {
		for k := range m.table.foils + 1 {
			if !q.passed[k] && !yield(k) {
				return
			}
		}
	}
}

// reprice changes the prices such that they also hold for a further stock, and each pair of the chain that was found for it has just its cost.
func (m *match) reprice(stock int, q quest) {
	most := q.above[q.end]
	m.stocks[stock] += most
	for k, passed := range q.passed {
		if passed {
			m.foils[k] -= most - q.above[k]
			m.stocks[m.way.stockOf[k]] += most - q.above[k]
		}
	}
}

// chain yields the pairs of the chain that was found, from its end: each stock has the foil that it would be for, and its former one passes on to the stock ahead of it, up to the stock that had none.
func (m *match) chain(q quest) iter.Seq[pair] {
	return func(yield func(pair) bool) {
		foil := q.end
		for {
			p := pair{q.wants[foil], foil}
			// What the stock had is lost as soon as the pair is given.
			foil = m.way.foilOf[p.stock]
			if !yield(p) || foil == 0 {
				return
			}
		}
	}
}

// cheapest returns the first one of those things that cost the least, or false if there are none.
func cheapest[T any](things iter.Seq[T], cost func(T) int) (T, bool) {
	var best T
	least, found := 0, false
	for x := range things {
		if c := cost(x); !found || c < least {
			best, least, found = x, c, true
		}
	}
	return best, found
}

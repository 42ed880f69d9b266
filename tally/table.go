package tally

import (
	"iter"

	"calx/api"
)

// seats is how many numbers there are for stocks, and for foils: they count from 1 on, and 0 is that of none.
const seats = api.MaxTallies + 1

// row is a number of each stock, or of each foil, by what they are numbered.
type row [seats]int

// pair is the numbers of a stock and a foil; 0 is that of none.
type pair struct{ stock, foil int }

// table is how many stocks and foils there are, and what each pair costs. That of none with a foil, or of a stock with none, is what is alone.
type table struct {
	stocks, foils int
	costs         [seats]row
}

func tableOf(b api.Bundle) *table {
	t := &table{stocks: len(b.Stocks), foils: len(b.Foils)}
	for i := range b.Stocks {
		t.costs[i+1][0] = b.LostStock
	}
	for k := range b.Foils {
		t.costs[0][k+1] = b.LostFoil
	}
	for i, x := range b.Stocks {
		for k, y := range b.Foils {
			t.costs[i+1][k+1] = costOf(b, x, y)
		}
	}
	return t
}

func (t *table) cost(p pair) int { return t.costs[p.stock][p.foil] }

// with returns the table in which a pair costs so much more.
func (t *table) with(p pair, more int) *table {
	other := *t
	other.costs[p.stock][p.foil] += more
	return &other
}

// pairs yields all pairs in order of the stocks, and of the foils, none ahead of all others; also that of none and none, which costs nothing.
func (t *table) pairs() iter.Seq[pair] {
	return func(yield func(pair) bool) {
		for i := range t.stocks + 1 {
			for k := range t.foils + 1 {
				if !yield(pair{i, k}) {
					return
				}
			}
		}
	}
}

// way is which stock has which foil, and the other way round.
type way struct{ foilOf, stockOf row }

// give gives a foil, or none, to a stock.
func (w *way) give(p pair) {
	w.foilOf[p.stock] = p.foil
	if p.foil != 0 {
		w.stockOf[p.foil] = p.stock
	}
}

// pairsOf yields the pairs of a way: those of all stocks in order, and then those of the foils that are alone.
func (t *table) pairsOf(w way) iter.Seq[pair] {
	return func(yield func(pair) bool) {
		for i := 1; i <= t.stocks; i++ {
			if !yield(pair{i, w.foilOf[i]}) {
				return
			}
		}
		for k := 1; k <= t.foils; k++ {
			if w.stockOf[k] == 0 && !yield(pair{0, k}) {
				return
			}
		}
	}
}

func (t *table) total(w way) int { return sum(t.pairsOf(w), t.cost) }

// sum returns the sum of a number of each of some things.
func sum[T any](things iter.Seq[T], of func(T) int) int {
	total := 0
	for x := range things {
		total += of(x)
	}
	return total
}

// wayOf returns the way that gives foils (their IDs, or 0) to all stocks, or false if there is none.
func wayOf(b api.Bundle, given []int) (way, bool) {
	if len(given) != len(b.Stocks) {
		return way{}, false
	}
	var w way
	foils := numbersOf(b.Foils)
	for i, id := range given {
		k, ok := foils[id]
		if !ok || w.stockOf[k] != 0 {
			return way{}, false
		}
		w.give(pair{i + 1, k})
	}
	return w, true
}

// givenBy returns, for each stock, the ID of its foil, or 0.
func givenBy(b api.Bundle, w way) []int {
	var given []int
	for i := range b.Stocks {
		given = append(given, foilID(b, w.foilOf[i+1]))
	}
	return given
}

// foilID returns the ID of a foil by its number, or 0 for none.
func foilID(b api.Bundle, number int) int {
	if number == 0 {
		return 0
	}
	return b.Foils[number-1].ID
}

package tally_test

import (
	"iter"
	"slices"

	"calx/api"
)

// ways yields all ways of a bundle, one by one.
func ways(b api.Bundle) iter.Seq[[]int] {
	return func(yield func([]int) bool) {
		var follow func(given []int) bool
		follow = func(given []int) bool {
			if len(given) == len(b.Stocks) {
				return yield(slices.Clone(given))
			}
			if !follow(append(slices.Clone(given), 0)) {
				return false
			}
			for _, y := range b.Foils {
				if !slices.Contains(given, y.ID) && !follow(append(slices.Clone(given), y.ID)) {
					return false
				}
			}
			return true
		}
		follow(nil)
	}
}

func find(l []api.Tally, id int) api.Tally {
	return l[slices.IndexFunc(l, func(x api.Tally) bool { return x.ID == id })]
}

// pairCost is what a pair costs, or, with 0, what is alone.
func pairCost(b api.Bundle, p api.Pair) int {
	switch {
	case p.Stock == 0 && p.Foil == 0:
		return 0
	case p.Foil == 0:
		return b.LostStock
	case p.Stock == 0:
		return b.LostFoil
	}
	x, y := find(b.Stocks, p.Stock), find(b.Foils, p.Foil)
	cost := 0
	for i := range b.Worths {
		if x.Notches[i] == worn || y.Notches[i] == worn {
			cost += b.Worn
		} else if x.Notches[i] != y.Notches[i] {
			cost += b.Wrong
		}
	}
	return cost
}

// pairsIn is the pairs of a way, with 0 for what is alone.
func pairsIn(b api.Bundle, given []int) []api.Pair {
	var l []api.Pair
	for i, id := range given {
		l = append(l, api.Pair{Stock: b.Stocks[i].ID, Foil: id})
	}
	for _, y := range b.Foils {
		if !slices.Contains(given, y.ID) {
			l = append(l, api.Pair{Foil: y.ID})
		}
	}
	return l
}

// wayCost is what a way costs.
func wayCost(b api.Bundle, given []int) int {
	cost := 0
	for _, p := range pairsIn(b, given) {
		cost += pairCost(b, p)
	}
	return cost
}

// isWay is whether a list is a way.
func isWay(b api.Bundle, given []int) bool {
	for i, id := range given {
		if id != 0 && (slices.Contains(given[:i], id) || !slices.ContainsFunc(b.Foils, func(y api.Tally) bool { return y.ID == id })) {
			return false
		}
	}
	return len(given) == len(b.Stocks)
}

// least is the worth of a tally with each worn notch 0.
func least(b api.Bundle, x api.Tally) int {
	sum := 0
	for i, n := range x.Notches {
		sum += max(n, 0) * b.Worths[i]
	}
	return sum
}

// owedBy is what somebody owes in a way.
func owedBy(b api.Bundle, given []int, who int) int {
	sum := 0
	for i, id := range given {
		if id != 0 && find(b.Foils, id).Who == who {
			sum += least(b, b.Stocks[i])
		}
	}
	return sum
}

// allPairs is all pairs, and those with 0: for each stock in order, with the foils in order, 0 ahead; first with the stock 0.
func allPairs(b api.Bundle) []api.Pair {
	var l []api.Pair
	for _, x := range append(sticks(api.Tally{}), b.Stocks...) {
		for _, y := range append(sticks(api.Tally{}), b.Foils...) {
			if x.ID != 0 || y.ID != 0 {
				l = append(l, api.Pair{Stock: x.ID, Foil: y.ID})
			}
		}
	}
	return l
}

// courses is what all ways of a bundle cost: the least, the least with a pair, and the least without it, if there is one; and the cheapest ways.
type courses struct {
	bundle       api.Bundle
	count        int
	least        int
	made, missed map[api.Pair]int
	cheapest     [][]int
}

func coursesOf(b api.Bundle) courses {
	x := courses{bundle: b, made: map[api.Pair]int{}, missed: map[api.Pair]int{}}
	all := allPairs(b)
	lower := func(m map[api.Pair]int, p api.Pair, cost int) {
		if old, ok := m[p]; !ok || cost < old {
			m[p] = cost
		}
	}
	for given := range ways(b) {
		cost := wayCost(b, given)
		if x.count == 0 || cost < x.least {
			x.least, x.cheapest = cost, nil
		}
		if cost == x.least {
			x.cheapest = append(x.cheapest, given)
		}
		x.count++
		in := pairsIn(b, given)
		for _, p := range all {
			if slices.Contains(in, p) {
				lower(x.made, p, cost)
			} else {
				lower(x.missed, p, cost)
			}
		}
	}
	return x
}

// inAll is whether a pair is in all cheapest ways, inSome whether it is in one.
func (x courses) inAll(p api.Pair) bool {
	return !slices.ContainsFunc(x.cheapest, func(given []int) bool { return !slices.Contains(pairsIn(x.bundle, given), p) })
}

func (x courses) inSome(p api.Pair) bool {
	return slices.ContainsFunc(x.cheapest, func(given []int) bool { return slices.Contains(pairsIn(x.bundle, given), p) })
}

// pairsThat is the pairs of the stocks for which something holds, in order.
func (x courses) pairsThat(holds func(api.Pair) bool) []api.Pair {
	return slices.DeleteFunc(allPairs(x.bundle), func(p api.Pair) bool { return p.Stock == 0 || !holds(p) })
}

// owed is what somebody owes at least and at most in cheapest ways.
func (x courses) owed(who int) api.Span {
	s := api.Span{Lo: owedBy(x.bundle, x.cheapest[0], who), Hi: owedBy(x.bundle, x.cheapest[0], who)}
	for _, given := range x.cheapest {
		sum := owedBy(x.bundle, given, who)
		s.Lo, s.Hi = min(s.Lo, sum), max(s.Hi, sum)
	}
	return s
}

// proves is whether prices prove a way, as the chapter tells it.
func proves(b api.Bundle, m api.Match) bool {
	if !isWay(b, m.Given) || m.Cost != wayCost(b, m.Given) || len(m.Stocks) != len(b.Stocks) || len(m.Foils) != len(b.Foils) {
		return false
	}
	sum := 0
	for _, price := range slices.Concat(m.Stocks, m.Foils) {
		if price < -(1<<20) || price > 1<<20 {
			return false
		}
		sum += price
	}
	for i, x := range b.Stocks {
		for k, y := range b.Foils {
			if m.Stocks[i]+m.Foils[k] > pairCost(b, api.Pair{Stock: x.ID, Foil: y.ID}) {
				return false
			}
		}
	}
	isAbove := func(most int) func(int) bool { return func(price int) bool { return price > most } }
	return sum == m.Cost && !slices.ContainsFunc(m.Stocks, isAbove(b.LostStock)) && !slices.ContainsFunc(m.Foils, isAbove(b.LostFoil))
}

// charts is what all ways of a great bundle cost, by sets of its foils (a bit for each): ahead[i][set] is the least for the first i stocks if they have just these foils, behind[i][set] the least for the others if they have none of these, and what the foils are that then are alone.
type charts struct {
	bundle        api.Bundle
	ahead, behind [][]int
}

const never = 1 << 50

func chartsOf(b api.Bundle, cost func(stock, foil int) int) charts {
	sets := 1 << len(b.Foils)
	x := charts{bundle: b}
	for range len(b.Stocks) + 1 {
		x.ahead = append(x.ahead, slices.Repeat(list(never), sets))
		x.behind = append(x.behind, slices.Repeat(list(never), sets))
	}
	x.ahead[0][0] = 0
	for set := range sets {
		x.behind[len(b.Stocks)][set] = 0
		for k := range b.Foils {
			if set>>k&1 == 0 {
				x.behind[len(b.Stocks)][set] += cost(-1, k)
			}
		}
	}
	for i := range b.Stocks {
		back := len(b.Stocks) - 1 - i
		alone, backAlone := cost(i, -1), cost(back, -1)
		for set := range sets {
			x.ahead[i+1][set] = min(x.ahead[i+1][set], x.ahead[i][set]+alone)
			x.behind[back][set] = min(x.behind[back][set], x.behind[back+1][set]+backAlone)
		}
		for k := range b.Foils {
			with, backWith := cost(i, k), cost(back, k)
			for set := range sets {
				if more := set | 1<<k; more != set {
					x.ahead[i+1][more] = min(x.ahead[i+1][more], x.ahead[i][set]+with)
					x.behind[back][set] = min(x.behind[back][set], x.behind[back+1][more]+backWith)
				}
			}
		}
	}
	return x
}

// chartsOfCosts is the charts of the costs as they are.
func chartsOfCosts(b api.Bundle) charts {
	return chartsOf(b, func(stock, foil int) int { return pairCost(b, idsOf(b, stock, foil)) })
}

// idsOf is a pair by the indices of a stock and a foil, -1 for none.
func idsOf(b api.Bundle, stock, foil int) api.Pair {
	var p api.Pair
	if stock >= 0 {
		p.Stock = b.Stocks[stock].ID
	}
	if foil >= 0 {
		p.Foil = b.Foils[foil].ID
	}
	return p
}

func (x charts) least() int { return x.behind[0][0] }

// made is the least cost of a way with a pair, by the indices of a stock (not -1) and a foil (or -1).
func (x charts) made(stock, foil int) int {
	cost := pairCost(x.bundle, idsOf(x.bundle, stock, foil))
	least := never
	for set := range x.ahead[0] {
		more := set
		if foil >= 0 {
			more |= 1 << foil
		}
		if foil < 0 || more != set {
			least = min(least, x.ahead[stock][set]+cost+x.behind[stock+1][more])
		}
	}
	return least
}

// allMade is the least cost of a way with each pair, by the numbers (indices and 1) of stocks and foils; 0 is that of none.
func (x charts) allMade() [][]int {
	last := len(x.bundle.Stocks)
	all := [][]int{slices.Repeat(list(never), len(x.bundle.Foils)+1)}
	for stock := range x.bundle.Stocks {
		var row []int
		for foil := -1; foil < len(x.bundle.Foils); foil++ {
			row = append(row, x.made(stock, foil))
		}
		all = append(all, row)
	}
	for set, cost := range x.ahead[last] {
		for k := range x.bundle.Foils {
			if set>>k&1 == 0 {
				all[0][k+1] = min(all[0][k+1], cost+x.behind[last][set])
			}
		}
	}
	return all
}

// missedOf is the least cost of a way without a pair (by numbers) of great bundles, of what ways with all other ones cost.
func missedOf(made [][]int, stock, foil int) int {
	cost := never
	for i, row := range made {
		for k, c := range row {
			// A way without the pair has another one of its stock, or, if the stock is none, one of its foil.
			if stock > 0 && i == stock && k != foil || stock == 0 && k == foil && i != 0 {
				cost = min(cost, c)
			}
		}
	}
	return cost
}

package recipe_test

import (
	"math/big"
	"slices"

	"calx/api"
)

// point is exact shares, of any size.
type point []*big.Rat

// bound is a number that is at least 0 for the shares that keep a rule.
type bound func(point) *big.Rat

func rat(n, d int) *big.Rat { return big.NewRat(int64(n), int64(d)) }

func ratOf(r api.Ratio) *big.Rat { return rat(r.Num, r.Den) }

func plus(a, b *big.Rat) *big.Rat { return new(big.Rat).Add(a, b) }

func minus(a, b *big.Rat) *big.Rat { return new(big.Rat).Sub(a, b) }

func times(a, b *big.Rat) *big.Rat { return new(big.Rat).Mul(a, b) }

func sumOf(r api.Recipe, l []api.Term, p point) *big.Rat {
	sum := rat(0, 1)
	for _, x := range l {
		sum = plus(sum, times(rat(x.Factor, 1), p[slices.Index(r.Stuffs, x.Stuff)]))
	}
	return sum
}

// boundsOf returns the bounds of a rule about shares.
func boundsOf(r api.Recipe, x api.Rule) []bound {
	i := slices.Index(r.Stuffs, x.Stuff)
	switch x.Kind {
	case api.RuShare:
		return []bound{
			func(p point) *big.Rat { return minus(p[i], times(ratOf(x.Lo), whole(p))) },
			func(p point) *big.Rat { return minus(times(ratOf(x.Hi), whole(p)), p[i]) },
		}
	case api.RuCompare:
		return []bound{func(p point) *big.Rat { return minus(sumOf(r, x.More, p), sumOf(r, x.Less, p)) }}
	}
	return nil
}

// whole returns the sum of shares, which is 1 but for directions.
func whole(p point) *big.Rat {
	sum := rat(0, 1)
	for _, x := range p {
		sum = plus(sum, x)
	}
	return sum
}

// pointOf returns the shares of a mortar.
func pointOf(m api.Mortar) point {
	total := 0
	for _, n := range m.Pounds {
		total += n
	}
	var p point
	for _, n := range m.Pounds {
		p = append(p, rat(n, total))
	}
	return p
}

// keepsRule reports whether a mortar keeps a rule.
func keepsRule(r api.Recipe, x api.Rule, m api.Mortar) bool {
	if x.Kind == api.RuAge {
		n := m.Ages[slices.Index(r.Stuffs, x.Stuff)]
		return x.From <= n && n <= x.To
	}
	p := pointOf(m)
	return !slices.ContainsFunc(boundsOf(r, x), func(b bound) bool { return b(p).Sign() < 0 })
}

// holdsOn reports whether a rule holds on a day.
func holdsOn(x api.Rule, day int) bool {
	for _, s := range x.Except {
		if s.Lo <= day && day <= s.Hi {
			return false
		}
	}
	return true
}

func holdingOn(r api.Recipe, day int) []int {
	var l []int
	for i, x := range r.Rules {
		if holdsOn(x, day) {
			l = append(l, i)
		}
	}
	return l
}

func brokenOn(r api.Recipe, m api.Mortar, day int) []int {
	var l []int
	for _, i := range holdingOn(r, day) {
		if !keepsRule(r, r.Rules[i], m) {
			l = append(l, i)
		}
	}
	return l
}

// region is the corners of the shares that keep some rules, and the ages that do (by their days).
type region struct {
	corners []point
	ages    []api.Span
}

// regionOf cuts the region of rules out of all shares, by one bound after the other.
func regionOf(r api.Recipe, rules []int) region {
	n := len(r.Stuffs)
	var all []bound
	var x region
	for i := range n {
		all = append(all, func(p point) *big.Rat { return p[i] })
		x.corners = append(x.corners, unit(n, i))
		x.ages = append(x.ages, span(0, api.MaxRipe))
	}
	for _, i := range rules {
		rule := r.Rules[i]
		for _, b := range boundsOf(r, rule) {
			all = append(all, b)
			x.corners = extremes(cut(x.corners, b), all)
		}
		if rule.Kind == api.RuAge {
			k := slices.Index(r.Stuffs, rule.Stuff)
			x.ages[k] = span(max(x.ages[k].Lo, rule.From), min(x.ages[k].Hi, rule.To))
		}
	}
	slices.SortFunc(x.corners, comparePoints)
	return x
}

func unit(n, i int) point {
	var p point
	for k := range n {
		if k == i {
			p = append(p, rat(1, 1))
		} else {
			p = append(p, rat(0, 1))
		}
	}
	return p
}

func comparePoints(a, b point) int {
	return slices.CompareFunc(a, b, func(a, b *big.Rat) int { return a.Cmp(b) })
}

// cut returns the points that keep a bound, and where it is reached between one that keeps it and one that does not.
func cut(l []point, b bound) []point {
	var kept []point
	for _, p := range l {
		if b(p).Sign() >= 0 {
			kept = append(kept, p)
		}
		for _, q := range l {
			if b(p).Sign() > 0 && b(q).Sign() < 0 {
				kept = append(kept, between(p, q, new(big.Rat).Quo(b(p), minus(b(p), b(q)))))
			}
		}
	}
	return kept
}

// between returns the point that is so far from p to q.
func between(p, q point, far *big.Rat) point {
	var l point
	for i := range p {
		l = append(l, plus(p[i], times(far, minus(q[i], p[i]))))
	}
	return l
}

// extremes returns the points that do not lie between others: the bounds that they reach leave no direction. Each one is told once.
func extremes(l []point, all []bound) []point {
	var found []point
	for _, p := range l {
		var rows []point
		for _, b := range all {
			if b(p).Sign() == 0 {
				rows = append(rows, formOf(b, len(p)))
			}
		}
		isSame := func(q point) bool { return comparePoints(p, q) == 0 }
		if rank(rows, len(p)) == len(p)-1 && !slices.ContainsFunc(found, isSame) {
			found = append(found, p)
		}
	}
	return found
}

// formOf returns the numbers by which a bound takes each share.
func formOf(b bound, n int) point {
	var p point
	for i := range n {
		p = append(p, b(unit(n, i)))
	}
	return p
}

// rank returns how many rows of numbers are left if those that are sums of others are left out.
func rank(rows []point, n int) int {
	count := 0
	for column := range n {
		i := slices.IndexFunc(rows[count:], func(p point) bool { return p[column].Sign() != 0 })
		if i < 0 {
			continue
		}
		rows[count], rows[count+i] = rows[count+i], rows[count]
		first := rows[count]
		count++
		for k := count; k < len(rows); k++ {
			by := new(big.Rat).Quo(rows[k][column], first[column])
			var row point
			for c := range n {
				row = append(row, minus(rows[k][c], times(by, first[c])))
			}
			rows[k] = row
		}
	}
	return count
}

// isEmpty reports whether no mortar keeps the rules.
func (x region) isEmpty() bool {
	return len(x.corners) == 0 || slices.ContainsFunc(x.ages, func(s api.Span) bool { return s.Lo > s.Hi })
}

// isLike reports whether the same mortars are in two regions.
func (x region) isLike(y region) bool {
	if x.isEmpty() || y.isEmpty() {
		return x.isEmpty() && y.isEmpty()
	}
	isSame := func(a, b point) bool { return comparePoints(a, b) == 0 }
	return slices.EqualFunc(x.corners, y.corners, isSame) && slices.Equal(x.ages, y.ages)
}

// told returns the corners as package recipe tells them.
func (x region) told() [][]api.Ratio {
	var l [][]api.Ratio
	for _, p := range x.corners {
		var row []api.Ratio
		for _, n := range p {
			row = append(row, toldOf(n))
		}
		l = append(l, row)
	}
	return l
}

func toldOf(n *big.Rat) api.Ratio { return ratio(int(n.Num().Int64()), int(n.Denom().Int64())) }

// pounds returns the first corner times the least number for which all are integers.
func (x region) pounds() []int {
	by := big.NewInt(1)
	for _, n := range x.corners[0] {
		common := new(big.Int).GCD(nil, nil, by, n.Denom())
		by.Mul(by, n.Denom()).Quo(by, common)
	}
	var l []int
	for _, n := range x.corners[0] {
		l = append(l, int(times(n, new(big.Rat).SetInt(by)).Num().Int64()))
	}
	return l
}

// left returns the rules that are left if those are left out one by one without which there is a conflict, too.
func left(r api.Recipe, rules []int) []int {
	for _, i := range slices.Clone(rules) {
		if l := less(rules, i); regionOf(r, l).isEmpty() {
			rules = l
		}
	}
	return rules
}

// idleOn returns the rules that hold without each of which the region is the same.
func idleOn(r api.Recipe, day int) []int {
	rules := holdingOn(r, day)
	full := regionOf(r, rules)
	var l []int
	for _, i := range rules {
		if regionOf(r, less(rules, i)).isLike(full) {
			l = append(l, i)
		}
	}
	return l
}

// isWithin reports whether the region of two recipes together is that of the first one.
func isWithin(a, b api.Recipe, day int) bool {
	first, second := only(a, holdingOn(a, day)), only(b, holdingOn(b, day))
	both := with(first, second.Rules...)
	return regionOf(both, upTo(len(both.Rules))).isLike(regionOf(first, upTo(len(first.Rules))))
}

// upTo returns the numbers from 0 on below n.
func upTo(n int) []int {
	var l []int
	for i := range n {
		l = append(l, i)
	}
	return l
}

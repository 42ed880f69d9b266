package recall_test

import (
	"slices"

	"calx/api"
)

// casesOf counts out all cases.
func casesOf(l api.Lineage) [][]int {
	all := [][]int{{}}
	for _, x := range l.Claims {
		var longer [][]int
		for _, c := range all {
			for at := range x.Options {
				longer = append(longer, append(slices.Clone(c), at))
			}
		}
		all = longer
	}
	return all
}

// trueIn is the options that are true in a case, by the indices of their records.
func trueIn(l api.Lineage, c []int) []api.Hop {
	var hops []api.Hop
	for i, x := range l.Claims {
		hops = append(hops, x.Options[c[i]])
	}
	return hops
}

// reachedBy is the nodes that come from some nodes by options, in order: what is led to is added until no option adds any more.
func reachedBy(from []int, hops []api.Hop) []int {
	l := slices.Clone(from)
	for long := 0; long < len(l); {
		long = len(l)
		for _, o := range hops {
			if slices.Contains(l, o.From) && !slices.Contains(l, o.To) {
				l = append(l, o.To)
			}
		}
	}
	slices.Sort(l)
	return l
}

// reached is what comes from some nodes in each of all cases.
func reached(l api.Lineage, from []int) [][]int {
	var all [][]int
	for _, c := range casesOf(l) {
		all = append(all, reachedBy(from, trueIn(l, c)))
	}
	return all
}

// count is in how many lists a number is.
func count(all [][]int, n int) int {
	sum := 0
	for _, l := range all {
		if slices.Contains(l, n) {
			sum++
		}
	}
	return sum
}

// sureOf is what surely comes from some nodes.
func sureOf(l api.Lineage, from []int) []int {
	all := reached(l, from)
	return slices.DeleteFunc(idsOf(l), func(id int) bool { return count(all, id) < len(all) })
}

// possibleOf is what possibly comes from some nodes.
func possibleOf(l api.Lineage, from []int) []int {
	all := reached(l, from)
	return slices.DeleteFunc(idsOf(l), func(id int) bool { return count(all, id) == 0 })
}

func isPossible(l api.Lineage, from []int, to int) bool { return count(reached(l, from), to) > 0 }

func isSure(l api.Lineage, from []int, to int) bool {
	all := reached(l, from)
	return count(all, to) == len(all)
}

// shareOf is in what part of all cases a node comes from some nodes.
func shareOf(l api.Lineage, from []int, to int) api.Ratio {
	all := reached(l, from)
	some := count(all, to)
	for n := len(all); n > 1; n-- {
		if some%n == 0 && len(all)%n == 0 {
			return api.Ratio{Num: some / n, Den: len(all) / n}
		}
	}
	return api.Ratio{Num: some, Den: len(all)}
}

// less is a lineage without some records.
func less(l api.Lineage, links ...int) api.Lineage {
	l = clone(l)
	l.Claims = slices.DeleteFunc(l.Claims, func(x api.Claim) bool { return slices.Contains(links, x.ID) })
	return l
}

// hangsOf is the records without each of which alone a node does not possibly come from some nodes.
func hangsOf(l api.Lineage, from []int, to int) []int {
	return slices.DeleteFunc(linksOf(l), func(link int) bool { return isPossible(less(l, link), from, to) })
}

// gatesOf is the nodes without the options that lead to each of which a node comes from some nodes in no case.
func gatesOf(l api.Lineage, from []int, to int) []int {
	return slices.DeleteFunc(idsOf(l), func(gate int) bool {
		if slices.Contains(from, gate) || gate == to {
			return true
		}
		for _, c := range casesOf(l) {
			hops := slices.DeleteFunc(trueIn(l, c), func(o api.Hop) bool { return o.To == gate })
			if slices.Contains(reachedBy(from, hops), to) {
				return true
			}
		}
		return false
	})
}

// cutOf is the records that stay in the cut.
func cutOf(l api.Lineage, from []int, to int) []int {
	cut := linksOf(l)
	for _, link := range linksOf(l) {
		others := slices.DeleteFunc(slices.Clone(cut), func(x int) bool { return x == link })
		if !isPossible(less(l, others...), from, to) {
			cut = others
		}
	}
	return cut
}

// wallsOf is the walls among nodes, and their costs.
func wallsOf(l api.Lineage, ids []int) ([]int, int) {
	var walls []int
	sum := 0
	for _, id := range ids {
		i := slices.IndexFunc(l.Nodes, func(x api.Node) bool { return x.ID == id })
		if l.Nodes[i].Level == 9 {
			walls = append(walls, id)
			sum += l.Nodes[i].Cost
		}
	}
	return walls, sum
}

// leftOf is how much is left in doubt if an option of the record at an index is true: of the cases of the whole lineage, those in which it is are looked at.
func leftOf(l api.Lineage, from []int, i, option int) int {
	var all [][]int
	for _, c := range casesOf(l) {
		if c[i] == option {
			all = append(all, reachedBy(from, trueIn(l, c)))
		}
	}
	doubt := slices.DeleteFunc(idsOf(l), func(id int) bool { return count(all, id) == 0 || count(all, id) == len(all) })
	_, sum := wallsOf(l, doubt)
	return sum
}

// askOf is the record that leaves the least in doubt, and how much; false if none can be asked for.
func askOf(l api.Lineage, from []int) (int, int, bool) {
	best, least, found := 0, 0, false
	for i, x := range l.Claims {
		if len(x.Options) == 1 {
			continue
		}
		left := 0
		for at := range x.Options {
			left = max(left, leftOf(l, from, i, at))
		}
		if !found || left < least || left == least && x.ID < best {
			best, least, found = x.ID, left, true
		}
	}
	return best, least, found
}

// originsOf is the charges from which alone a node comes, surely and possibly.
func originsOf(l api.Lineage, to int) ([]int, []int) {
	var sure, possible []int
	for _, id := range idsOf(l) {
		i := slices.IndexFunc(l.Nodes, func(x api.Node) bool { return x.ID == id })
		if l.Nodes[i].Level > 0 {
			continue
		}
		if isSure(l, list(id), to) {
			sure = append(sure, id)
		}
		if isPossible(l, list(id), to) {
			possible = append(possible, id)
		}
	}
	return sure, possible
}

// isTrace reports whether a trace leads from some nodes to a node, in the chapter's words.
func isTrace(l api.Lineage, from []int, to int, t api.Trace) bool {
	if len(t.Case) != len(l.Claims) {
		return false
	}
	for i, at := range t.Case {
		if at < 0 || at >= len(l.Claims[i].Options) {
			return false
		}
	}
	var hops []api.Hop
	for k, link := range t.Claims {
		i := slices.IndexFunc(l.Claims, func(x api.Claim) bool { return x.ID == link })
		if i < 0 || slices.Contains(t.Claims[:k], link) {
			return false
		}
		hops = append(hops, l.Claims[i].Options[t.Case[i]])
		if k > 0 && hops[k].From != hops[k-1].To {
			return false
		}
	}
	if len(hops) == 0 {
		return slices.Contains(from, to)
	}
	return slices.Contains(from, hops[0].From) && hops[len(hops)-1].To == to
}

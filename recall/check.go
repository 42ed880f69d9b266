package recall

import (
	"slices"

	"calx/api"
)

// Check returns the first error of a lineage.
func Check(l api.Lineage) api.Errno {
	if len(l.Nodes) > api.MaxNodes || len(l.Claims) > api.MaxClaims {
		return api.ErrLimit
	}
	if e := checkEach(l.Nodes, nodeID, isNode); e != api.OK {
		return e
	}
	levels := levelsOf(l.Nodes)
	isRight := func(x api.Claim) bool { return isClaim(x, levels) }
	if e := checkEach(l.Claims, claimID, isRight); e != api.OK {
		return e
	}
	if countCases(l.Claims) > api.MaxCases {
		return api.ErrLimit
	}
	return api.OK
}

// Cases returns how many cases there are.
func Cases(l api.Lineage) (int, api.Errno) {
	if e := Check(l); e != api.OK {
		return 0, e
	}
	return countCases(l.Claims), api.OK
}

// checkEach returns the first error of things that have IDs.
func checkEach[T any](l []T, idOf func(T) int, isRight func(T) bool) api.Errno {
	known := set{}
	for _, x := range l {
		if !isRight(x) {
			return api.ErrArg
		}
		if known[idOf(x)] {
			return api.ErrTwice
		}
		known[idOf(x)] = true
	}
	return api.OK
}

func nodeID(x api.Node) int { return x.ID }

func claimID(x api.Claim) int { return x.ID }

func isNode(x api.Node) bool {
	return isID(x.ID) && isWithin(x.Level, api.LvCharge, api.LvWall) && isWithin(x.Cost, 0, api.MaxCost9)
}

// isClaim reports whether a record of nodes with some levels is right.
func isClaim(x api.Claim, levels map[int]int) bool {
	if !isID(x.ID) || !isWithin(len(x.Options), 1, api.MaxOptions) {
		return false
	}
	for i, o := range x.Options {
		if !leadsUp(o, levels) || slices.Contains(x.Options[:i], o) {
			return false
		}
	}
	return true
}

func leadsUp(o api.Hop, levels map[int]int) bool {
	from, hasFrom := levels[o.From]
	to, hasTo := levels[o.To]
	return hasFrom && hasTo && from < to
}

// levelsOf returns the levels of nodes by their IDs.
func levelsOf(l []api.Node) map[int]int {
	levels := map[int]int{}
	for _, x := range l {
		levels[x.ID] = x.Level
	}
	return levels
}

// countCases returns how many cases there are; if they are too many, it counts no further than that, since their number may not be one that an int holds.
func countCases(l []api.Claim) int {
	count := 1
	for _, x := range l {
		count *= len(x.Options)
		if count > api.MaxCases {
			break
		}
	}
	return count
}

// checkFrom returns the first error of a lineage, and of a list of its nodes.
func checkFrom(l api.Lineage, from []int) api.Errno {
	if e := Check(l); e != api.OK {
		return e
	}
	if len(from) == 0 || !areIDs(from, func(id int) bool { return hasID(l.Nodes, id, nodeID) }) {
		return api.ErrArg
	}
	return api.OK
}

// checkTo returns the first error of a lineage, of a list of its nodes, and of one node.
func checkTo(l api.Lineage, from []int, to int) api.Errno {
	if e := checkFrom(l, from); e != api.OK {
		return e
	}
	if !hasID(l.Nodes, to, nodeID) {
		return api.ErrNone
	}
	return api.OK
}

// areLinks reports whether a list is one of records.
func areLinks(l api.Lineage, links []int) bool {
	return areIDs(links, func(id int) bool { return hasID(l.Claims, id, claimID) })
}

// areIDs reports whether a list increases, and all of it is known.
func areIDs(l []int, isKnown func(id int) bool) bool {
	for i, id := range l {
		if i > 0 && id <= l[i-1] || !isKnown(id) {
			return false
		}
	}
	return true
}

// isCase reports whether a list is a case.
func isCase(l api.Lineage, choice []int) bool {
	return slices.EqualFunc(choice, l.Claims, func(at int, x api.Claim) bool { return isWithin(at, 0, len(x.Options)-1) })
}

func hasID[T any](l []T, id int, idOf func(T) int) bool { return indexOf(l, id, idOf) >= 0 }

// indexOf returns the index of what has an ID, or -1.
func indexOf[T any](l []T, id int, idOf func(T) int) int {
	return slices.IndexFunc(l, func(x T) bool { return idOf(x) == id })
}

func isID(n int) bool { return isWithin(n, 1, api.MaxID) }

func isWithin(n, least, most int) bool { return least <= n && n <= most }

package recall

import (
	"slices"

	"calx/api"
)

// Hangs returns the records without each of which a node does not possibly come from some nodes.
func Hangs(l api.Lineage, from []int, to int) ([]int, api.Errno) {
	n, _, chain, e := findChain(l, from, to)
	if e != api.OK {
		return nil, e
	}
	needed := set{}
	// Without a record that is not in this chain, it still leads there.
	for _, o := range chain {
		if !n.without(set{o.id: true}).isPossible(from, to) {
			needed[o.id] = true
		}
	}
	return needed.sorted(), api.OK
}

// Gates returns the nodes through which a node comes from some nodes in all cases in which it does.
func Gates(l api.Lineage, from []int, to int) ([]int, api.Errno) {
	n, _, chain, e := findChain(l, from, to)
	if e != api.OK {
		return nil, e
	}
	gates := set{}
	// Each chain that leads there passes all gates.
	for _, o := range chain {
		others := n.only(func(x option) bool { return x.To != o.To })
		if o.To != to && !others.isPossible(from, to) {
			gates[o.To] = true
		}
	}
	return gates.sorted(), api.OK
}

// Cut returns records without which a node does not possibly come from some nodes.
func Cut(l api.Lineage, from []int, to int) ([]int, api.Errno) {
	if e := checkTo(l, from, to); e != api.OK {
		return nil, e
	}
	if slices.Contains(from, to) {
		return nil, api.ErrNone
	}
	cut := set{}
	for _, x := range l.Claims {
		cut[x.ID] = true
	}
	n := netOf(l)
	for _, link := range cut.sorted() {
		delete(cut, link)
		if n.without(cut).isPossible(from, to) {
			cut[link] = true
		}
	}
	return cut.sorted(), api.OK
}

// CheckCut returns OK if a node does not possibly come from some nodes without some records.
func CheckCut(l api.Lineage, from []int, to int, links []int) api.Errno {
	if e := checkTo(l, from, to); e != api.OK {
		return e
	}
	if !areLinks(l, links) {
		return api.ErrArg
	}
	if netOf(l).without(setOf(links)).isPossible(from, to) {
		return api.ErrProof
	}
	return api.OK
}

package shaft

import (
	"slices"

	"calx/api"
)

// Rests returns the weighings without each of which a mark could lie higher above another one.
func Rests(k api.Kiln, from, to int) ([]int, api.Errno) {
	if e := checkMarks(k, from, to); e != api.OK {
		return nil, e
	}
	s, loose := netOf(k).spread(from)
	if loose != none {
		return nil, api.ErrClash
	}
	return needed(k, func(n net) bool {
		other, _ := n.spread(from)
		return other.most[to] != s.most[to]
	}), api.OK
}

// Suspects returns the weighings without each of which nothing is contradicted any more.
func Suspects(k api.Kiln) ([]int, api.Errno) {
	if e := Check(k); e != api.OK {
		return nil, e
	}
	if netOf(k).agrees() {
		return nil, api.OK
	}
	return needed(k, net.agrees), api.OK
}

// needed returns the IDs of the weighings without each of which alone something holds, in increasing order.
func needed(k api.Kiln, holds func(net) bool) []int {
	var l []int
	for _, w := range k.Weighs {
		if holds(netOf(without(k, []int{w.ID}))) {
			l = append(l, w.ID)
		}
	}
	slices.Sort(l)
	return l
}

// Without returns a kiln without some weighings.
func Without(k api.Kiln, ids []int) (api.Kiln, api.Errno) {
	if e := Check(k); e != api.OK {
		return api.Kiln{}, e
	}
	return without(k, ids), api.OK
}

// without returns a copy of a kiln without the weighings with some IDs.
func without(k api.Kiln, ids []int) api.Kiln {
	k.Loads = slices.Clone(k.Loads)
	k.Draws = slices.Clone(k.Draws)
	k.Weighs = slices.DeleteFunc(slices.Clone(k.Weighs), func(w api.Weigh) bool {
		return slices.Contains(ids, w.ID)
	})
	return k
}

package recall

import "calx/api"

// Reach returns the nodes that come from some nodes in a case.
func Reach(l api.Lineage, from, choice []int) ([]int, api.Errno) {
	if e := checkFrom(l, from); e != api.OK {
		return nil, e
	}
	if !isCase(l, choice) {
		return nil, api.ErrArg
	}
	return netOf(l).reach(from, truth(choice).holds).sorted(), api.OK
}

// Surely returns the nodes that come from some nodes in all cases.
func Surely(l api.Lineage, from []int) ([]int, api.Errno) {
	if e := checkFrom(l, from); e != api.OK {
		return nil, e
	}
	sure, _ := netOf(l).ends(from)
	return sure.sorted(), api.OK
}

// Possibly returns the nodes that come from some nodes in some case.
func Possibly(l api.Lineage, from []int) ([]int, api.Errno) {
	if e := checkFrom(l, from); e != api.OK {
		return nil, e
	}
	_, possible := netOf(l).ends(from)
	return possible.sorted(), api.OK
}

// Origins returns the charges from which a node surely comes, and those from which it possibly does.
func Origins(l api.Lineage, to int) ([]int, []int, api.Errno) {
	if e := Check(l); e != api.OK {
		return nil, nil, e
	}
	if !hasID(l.Nodes, to, nodeID) {
		return nil, nil, api.ErrNone
	}
	// A node comes from a charge in the cases in which one comes back from it to the charge.
	sure, possible := netOf(backward(l)).ends([]int{to})
	return ofLevel(l, sure, api.LvCharge).sorted(), ofLevel(l, possible, api.LvCharge).sorted(), api.OK
}

// backward returns the lineage in which all options lead back.
func backward(l api.Lineage) api.Lineage {
	back := clone(l)
	for i := range back.Nodes {
		back.Nodes[i].Level = api.LvCharge + api.LvWall - back.Nodes[i].Level
	}
	for _, x := range back.Claims {
		for at, o := range x.Options {
			x.Options[at] = api.Hop{From: o.To, To: o.From}
		}
	}
	return back
}

// Share returns in what part of all cases a node comes from some nodes.
func Share(l api.Lineage, from []int, to int) (api.Ratio, api.Errno) {
	if e := checkTo(l, from, to); e != api.OK {
		return api.Ratio{}, e
	}
	n := netOf(l)
	some, all := 0, 0
	for c := range n.cases() {
		if n.reach(from, c.holds)[to] {
			some++
		}
		all++
	}
	by := gcd(some, all)
	return api.Ratio{Num: some / by, Den: all / by}, api.OK
}

// gcd returns the greatest divisor of two numbers, one of which is not 0.
func gcd(a, b int) int {
	for b != 0 {
		a, b = b, a%b
	}
	return a
}

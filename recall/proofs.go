package recall

import (
	"slices"

	"calx/api"
)

// Way returns a case in which a node comes from some nodes, and by which records.
func Way(l api.Lineage, from []int, to int) (api.Trace, api.Errno) {
	_, c, chain, e := findChain(l, from, to)
	if e != api.OK {
		return api.Trace{}, e
	}
	t := api.Trace{Case: c}
	for _, o := range chain {
		t.Claims = append(t.Claims, o.id)
	}
	return t, api.OK
}

// findChain returns the net of a lineage, a case in which a node comes from some nodes, and by which options it does.
func findChain(l api.Lineage, from []int, to int) (net, truth, []option, api.Errno) {
	if e := checkTo(l, from, to); e != api.OK {
		return net{}, nil, nil, e
	}
	n := netOf(l)
	c, isFound := n.find(from, to)
	if !isFound {
		return net{}, nil, nil, api.ErrNone
	}
	return n, c, n.chain(from, to, c), api.OK
}

// chain returns the options by which a node comes from some nodes in a case in which it does.
func (n net) chain(from []int, to int, c truth) []option {
	reached := n.reach(from, c.holds)
	var chain []option
	for !slices.Contains(from, to) {
		i := slices.IndexFunc(n.options, func(o option) bool { return o.To == to && reached[o.From] && c.holds(o) })
		chain = append(chain, n.options[i])
		to = n.options[i].From
	}
	slices.Reverse(chain)
	return chain
}

// CheckWay returns OK if a node comes from some nodes so.
func CheckWay(l api.Lineage, from []int, to int, t api.Trace) api.Errno {
	if e := checkTo(l, from, to); e != api.OK {
		return e
	}
	if !isCase(l, t.Case) || !leads(l, from, to, t) {
		return api.ErrProof
	}
	return api.OK
}

// leads reports whether a trace leads from some nodes to a node, if its case is one. No record can stand twice in it, since each one leads up.
func leads(l api.Lineage, from []int, to int, t api.Trace) bool {
	ends := from
	for _, link := range t.Claims {
		i := indexOf(l.Claims, link, claimID)
		if i < 0 {
			return false
		}
		o := l.Claims[i].Options[t.Case[i]]
		if !slices.Contains(ends, o.From) {
			return false
		}
		ends = []int{o.To}
	}
	return slices.Contains(ends, to)
}

// Clear returns a case in which a node does not come from some nodes.
func Clear(l api.Lineage, from []int, to int) ([]int, api.Errno) {
	if e := checkTo(l, from, to); e != api.OK {
		return nil, e
	}
	c, isFound := netOf(l).findClear(from, to)
	if !isFound {
		return nil, api.ErrNone
	}
	return c, api.OK
}

// CheckClear returns OK if a node does not come from some nodes in a case.
func CheckClear(l api.Lineage, from []int, to int, choice []int) api.Errno {
	if e := checkTo(l, from, to); e != api.OK {
		return e
	}
	if !isCase(l, choice) {
		return api.ErrArg
	}
	if netOf(l).reach(from, truth(choice).holds)[to] {
		return api.ErrProof
	}
	return api.OK
}

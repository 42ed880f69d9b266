package shaft

import "calx/api"

// Find returns weights that can be true.
func Find(k api.Kiln) (api.Truth, api.Errno) {
	if e := Check(k); e != api.OK {
		return api.Truth{}, e
	}
	s, loose := netOf(k).spread(0)
	if loose != none {
		return api.Truth{}, api.ErrClash
	}
	return truthOf(k, s.most), api.OK
}

// Clash returns ties that contradict each other.
func Clash(k api.Kiln) ([]int, bool, api.Errno) {
	if e := Check(k); e != api.OK {
		return nil, false, e
	}
	n := netOf(k)
	s, loose := n.spread(0)
	if loose == none {
		return nil, false, api.OK
	}
	return n.circle(s, loose), true, api.OK
}

// CheckClash returns OK if ties contradict each other.
func CheckClash(k api.Kiln, l []int) api.Errno {
	if e := Check(k); e != api.OK {
		return e
	}
	if len(l) > api.MaxChain {
		return api.ErrLimit
	}
	n := netOf(k)
	if len(l) == 0 || l[0] < 0 || l[0] >= len(n.ties) {
		return api.ErrProof
	}
	from := n.ties[l[0]].From
	end, sum, ok := n.walk(from, l)
	if !ok || end != from || sum >= 0 {
		return api.ErrProof
	}
	return api.OK
}

// Above returns how much a mark lies above another one at most.
func Above(k api.Kiln, from, to int) (api.Chain, api.Errno) {
	if e := checkMarks(k, from, to); e != api.OK {
		return api.Chain{}, e
	}
	n := netOf(k)
	s, loose := n.spread(from)
	if loose != none {
		return api.Chain{}, api.ErrClash
	}
	return api.Chain{Most: s.most[to], Path: n.path(s, to), Truth: truthOf(k, s.most)}, api.OK
}

// CheckAbove returns OK if a chain shows how much a mark lies above another one at most.
func CheckAbove(k api.Kiln, from, to int, c api.Chain) api.Errno {
	if e := checkMarks(k, from, to); e != api.OK {
		return e
	}
	if len(c.Path) > api.MaxChain {
		return api.ErrLimit
	}
	end, sum, ok := netOf(k).walk(from, c.Path)
	if !ok || end != to || sum != c.Most {
		return api.ErrProof
	}
	if _, fits, e := Fits(k, c.Truth); e != api.OK || !fits {
		return api.ErrProof
	}
	h := heightsOf(k, c.Truth)
	if h[to]-h[from] != c.Most {
		return api.ErrProof
	}
	return api.OK
}

// checkMarks returns the error of a kiln, or ErrArg unless two numbers are marks of it.
func checkMarks(k api.Kiln, from, to int) api.Errno {
	if e := Check(k); e != api.OK {
		return e
	}
	last := len(k.Loads) + len(k.Draws)
	if from < 0 || from > last || to < 0 || to > last {
		return api.ErrArg
	}
	return api.OK
}

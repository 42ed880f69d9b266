package shaft

import (
	"sort"

	"calx/api"
)

// Took returns how much of a load a draw took at least and at most.
func Took(k api.Kiln, draw, load int) (api.Span, api.Errno) {
	o, e := taking(k, draw, load)
	if e != api.OK {
		return api.Span{}, e
	}
	least, _ := o.least()
	return api.Span{Lo: least, Hi: o.most()}, api.OK
}

// Taking returns weights with which a draw took the least of a load, and some with which it took the most.
func Taking(k api.Kiln, draw, load int) (api.Truth, api.Truth, api.Errno) {
	o, e := taking(k, draw, load)
	if e != api.OK {
		return api.Truth{}, api.Truth{}, e
	}
	_, low := o.least()
	high := low
	// If it can take nothing at all, it takes the most by all weights that are true.
	if most := o.most(); most > 0 {
		high, _ = o.reaches(most)
	}
	return truthOf(k, low), truthOf(k, high), api.OK
}

// Sources returns the loads of which a draw surely took something, and those of which it possibly did.
func Sources(k api.Kiln, draw int) ([]int, []int, api.Errno) {
	if e := Check(k); e != api.OK {
		return nil, nil, e
	}
	return met(k, loads(k), draws(k), draw)
}

// Sinks returns the draws that surely took something of a load, and those that possibly did.
func Sinks(k api.Kiln, load int) ([]int, []int, api.Errno) {
	if e := Check(k); e != api.OK {
		return nil, nil, e
	}
	return met(k, draws(k), loads(k), load)
}

// met returns the IDs of those of a row that surely share something with a record of the other row, and of those that possibly do.
func met[A, B api.Load | api.Draw](k api.Kiln, r row[A], other row[B], id int) ([]int, []int, api.Errno) {
	p, ok := other.parts()[id]
	if !ok {
		return nil, nil, api.ErrNone
	}
	n := netOf(k)
	if !n.agrees() {
		return nil, nil, api.ErrClash
	}
	var sure, possible []int
	for i := range r.list {
		o := n.overlap(r.part(i), p)
		if least, _ := o.least(); least > 0 {
			sure = append(sure, r.at(i).ID)
		}
		if _, ok := o.reaches(1); ok {
			possible = append(possible, r.at(i).ID)
		}
	}
	return sure, possible, api.OK
}

// taking returns what lies in both a load and a draw of a kiln, if there can be true weights.
func taking(k api.Kiln, draw, load int) (overlap, api.Errno) {
	if e := Check(k); e != api.OK {
		return overlap{}, e
	}
	l, isLoad := loads(k).parts()[load]
	d, isDraw := draws(k).parts()[draw]
	if !isLoad || !isDraw {
		return overlap{}, api.ErrNone
	}
	n := netOf(k)
	if !n.agrees() {
		return overlap{}, api.ErrClash
	}
	return n.overlap(l, d), api.OK
}

// overlap is what lies in two parts at once: as much as the lightest of its sides, or nothing, if that is less than 0.
type overlap struct {
	net   net
	sides [4]part
}

// overlap returns what lies in two parts of a net that agrees.
func (n net) overlap(a, b part) overlap {
	return overlap{n, [4]part{a, {a.ahead, b.own}, {b.ahead, a.own}, b}}
}

// least returns the least weight that lies in both parts, and heights with which it is so.
func (o overlap) least() (int, heights) {
	var low heights
	least := far
	for _, side := range o.sides {
		s, _ := o.net.spread(side.own)
		if weight := -s.most[side.ahead]; weight < least {
			least, low = weight, s.most
		}
	}
	return max(least, 0), low
}

// most returns the greatest weight that lies in both parts.
func (o overlap) most() int {
	return sort.Search(api.MaxWeight, func(less int) bool {
		_, ok := o.reaches(less + 1)
		return !ok
	})
}

// reaches returns heights with which at least a weight greater than 0 lies in both parts, if there are such ones.
func (o overlap) reaches(weight int) (heights, bool) {
	var more [4]api.Tie
	for i, side := range o.sides {
		more[i] = api.Tie{From: side.own, To: side.ahead, Most: -weight}
	}
	s, loose := o.net.with(more[:]...).spread(0)
	return s.most, loose == none
}

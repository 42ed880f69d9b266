package shaft

import (
	"iter"
	"slices"

	"calx/api"
)

// Ties returns all that is known of a kiln, as ties.
func Ties(k api.Kiln) ([]api.Tie, api.Errno) {
	if e := Check(k); e != api.OK {
		return nil, e
	}
	return slices.Collect(ties(k)), api.OK
}

// Fits reports whether weights can be true, and returns the first tie that they do not keep.
func Fits(k api.Kiln, t api.Truth) (int, bool, api.Errno) {
	if e := Check(k); e != api.OK {
		return 0, false, e
	}
	if !areWeights(t.Loads, len(k.Loads)) || !areWeights(t.Draws, len(k.Draws)) {
		return 0, false, api.ErrArg
	}
	h := heightsOf(k, t)
	index := 0
	for tie := range ties(k) {
		if h[tie.To]-h[tie.From] > tie.Most {
			return index, false, api.OK
		}
		index++
	}
	return 0, true, api.OK
}

// areWeights reports whether there are as many numbers as asked for, none of them too great to be added up.
func areWeights(l []int, count int) bool {
	outside := func(weight int) bool { return weight < 0 || weight > api.MaxRoom }
	return len(l) == count && !slices.ContainsFunc(l, outside)
}

// ties yields the ties of a kiln, in order.
func ties(k api.Kiln) iter.Seq[api.Tie] {
	return func(yield func(api.Tie) bool) {
		for _, some := range []iter.Seq[api.Tie]{loads(k).ties(), draws(k).ties(), weighTies(k), stockTies(k), roomTies(k)} {
			for t := range some {
				if !yield(t) {
					return
				}
			}
		}
	}
}

// ties yields what is known of each record of the row alone.
func (r row[T]) ties() iter.Seq[api.Tie] {
	return func(yield func(api.Tie) bool) {
		for i := range r.list {
			x := r.at(i)
			if !tieBoth(r.part(i), x.Weight, x.ID, yield) {
				return
			}
		}
	}
}

// weighTies yields what is known by weighings.
func weighTies(k api.Kiln) iter.Seq[api.Tie] {
	return func(yield func(api.Tie) bool) {
		for _, w := range k.Weighs {
			p, _ := weighed(k, w)
			if !tieBoth(p, w.Sum, w.ID, yield) {
				return
			}
		}
	}
}

// stockTies yields that no draw takes what was not charged.
func stockTies(k api.Kiln) iter.Seq[api.Tie] {
	return func(yield func(api.Tie) bool) {
		for i, d := range k.Draws {
			if !yield(api.Tie{From: loads(k).by(d.Hour), To: draws(k).mark(i + 1)}) {
				return
			}
		}
	}
}

// roomTies yields that no load is charged above the top of the shaft. In an hour all is charged before any is drawn, so only draws of earlier hours have made room.
func roomTies(k api.Kiln) iter.Seq[api.Tie] {
	return func(yield func(api.Tie) bool) {
		for i, l := range k.Loads {
			if !yield(api.Tie{From: draws(k).by(l.Hour - 1), To: loads(k).mark(i + 1), Most: k.Room}) {
				return
			}
		}
	}
}

// tieBoth yields that a part weighs at most, and at least, what a span says, and reports whether to go on.
func tieBoth(p part, s api.Span, id int, yield func(api.Tie) bool) bool {
	return yield(api.Tie{From: p.ahead, To: p.own, Most: s.Hi, ID: id}) && yield(api.Tie{From: p.own, To: p.ahead, Most: -s.Lo, ID: id})
}

package book

import (
	"iter"
	"math/bits"
)

// tree is some entries of a book: so many from an index on.
type tree struct{ from, long int }

// end returns the index behind a tree.
func (t tree) end() int { return t.from + t.long }

// has reports whether the entry at an index lies in a tree.
func (t tree) has(at int) bool { return t.from <= at && at < t.end() }

// halves yields both halves of a tree, or nothing if it has at most one entry.
func (t tree) halves() iter.Seq[tree] {
	return func(yield func(tree) bool) {
		if t.long < 2 {
			return
		}
		first := tree{t.from, powerBelow(t.long)}
		if yield(first) {
			yield(tree{first.end(), t.long - first.long})
		}
	}
}

// powerBelow returns the greatest power of 2 that is less than a number, which is at least 2.
func powerBelow(n int) int { return 1 << (bits.Len(uint(n-1)) - 1) }

// around returns the trees in which an entry lies, from that of itself alone up to the whole one.
func (t tree) around(at int) []tree {
	for half := range t.halves() {
		if half.has(at) {
			return append(half.around(at), t)
		}
	}
	return []tree{t}
}

// beside returns the halves in which an entry does not lie, that of the last halving first.
func (t tree) beside(at int) []tree {
	var l []tree
	for _, x := range t.around(at) {
		for half := range x.halves() {
			if !half.has(at) {
				l = append(l, half)
			}
		}
	}
	return l
}

// cut returns, in order, the trees that come of halving as long as a tree lies neither within the first entries nor behind them.
func (t tree) cut(first int) []tree {
	if t.end() <= first || t.from >= first {
		return []tree{t}
	}
	var l []tree
	for half := range t.halves() {
		l = append(l, half.cut(first)...)
	}
	return l
}

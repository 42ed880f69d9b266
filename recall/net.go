package recall

import (
	"iter"
	"maps"
	"slices"

	"calx/api"
)

// set is IDs.
type set map[int]bool

func setOf(l []int) set {
	s := set{}
	for _, id := range l {
		s[id] = true
	}
	return s
}

// sorted returns the IDs of a set in order.
func (s set) sorted() []int { return slices.Sorted(maps.Keys(s)) }

// option is one of a record, of which it has the index and the ID: its index there, and where it leads.
type option struct {
	record, id, at int
	api.Hop
}

// truth is a case.
type truth []int

// holds reports whether an option is true in a case.
func (c truth) holds(o option) bool { return c[o.record] == o.at }

// net is the options of a lineage that is right, and how many choices each record has.
// The options begin at lower levels first: so one that leads to a node comes ahead of those that begin there, and to follow all of them once is enough.
type net struct {
	options []option
	choices []int
}

// netOf returns the net of a lineage.
func netOf(l api.Lineage) net {
	var n net
	for i, x := range l.Claims {
		n.choices = append(n.choices, len(x.Options))
		for at, o := range x.Options {
			n.options = append(n.options, option{i, x.ID, at, o})
		}
	}
	levels := levelsOf(l.Nodes)
	slices.SortStableFunc(n.options, func(x, y option) int { return levels[x.From] - levels[y.From] })
	return n
}

// only returns the net of the options that are left: where another one is true, its record has none. Records of which none is left keep one choice, since it does not matter any more.
func (n net) only(isLeft func(option) bool) net {
	left := net{choices: slices.Repeat([]int{1}, len(n.choices))}
	for _, o := range n.options {
		if isLeft(o) {
			left.options = append(left.options, o)
			left.choices[o.record] = n.choices[o.record]
		}
	}
	return left
}

// without returns the net of all records but some.
func (n net) without(links set) net {
	return n.only(func(o option) bool { return !links[o.id] })
}

// cases yields all cases, each with memory of its own.
func (n net) cases() iter.Seq[truth] {
	return func(yield func(truth) bool) {
		c := make(truth, len(n.choices))
		for more := true; more; more = n.advance(c) {
			if !yield(slices.Clone(c)) {
				return
			}
		}
	}
}

// advance makes a case the next one, and reports whether there is one.
func (n net) advance(c truth) bool {
	for i, choices := range n.choices {
		c[i]++
		if c[i] < choices {
			return true
		}
		c[i] = 0
	}
	return false
}

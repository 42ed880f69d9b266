package recall

import (
	"iter"
	"maps"
)

// spread yields the nodes that come from some nodes by the options that are followed, each one once, as they are reached.
func (n net) spread(from []int, isFollowed func(option) bool) iter.Seq[int] {
	return func(yield func(int) bool) {
		reached := set{}
		for _, id := range from {
			reached[id] = true
			if !yield(id) {
				return
			}
		}
		for _, o := range n.options {
			if !reached[o.From] || reached[o.To] || !isFollowed(o) {
				continue
			}
			reached[o.To] = true
			if !yield(o.To) {
				return
			}
		}
	}
}

// reach returns the nodes that come from some nodes by the options that are followed.
func (n net) reach(from []int, isFollowed func(option) bool) set {
	reached := set{}
	for id := range n.spread(from, isFollowed) {
		reached[id] = true
	}
	return reached
}

// ends returns the nodes that come from some nodes in all cases, and those that do so in some.
func (n net) ends(from []int) (set, set) {
	// No case reaches more than all options together.
	sure := n.reach(from, isAny)
	possible := set{}
	for c := range n.cases() {
		reached := n.reach(from, c.holds)
		maps.Copy(possible, reached)
		for id := range sure {
			if !reached[id] {
				delete(sure, id)
			}
		}
	}
	return sure, possible
}

// find returns a case in which a node comes from some nodes, and true; or false if there is none.
func (n net) find(from []int, to int) (truth, bool) {
	// What all options together do not reach, none of the cases does.
	if !n.reach(from, isAny)[to] {
		return nil, false
	}
	var found truth
	isFound := false
search:
	for c := range n.cases() {
		for id := range n.spread(from, c.holds) {
			if id == to {
				found, isFound = c, true
				break search
			}
		}
	}
	return found, isFound
}

// findClear returns a case in which a node does not come from some nodes, and true; or false if there is none.
func (n net) findClear(from []int, to int) (truth, bool) {
	var found truth
	isFound := false
search:
	for c := range n.cases() {
		for id := range n.spread(from, c.holds) {
			if id == to {
				continue search
			}
		}
		found, isFound = c, true
		break search
	}
	return found, isFound
}

// isPossible reports whether a node possibly comes from some nodes.
func (n net) isPossible(from []int, to int) bool {
	_, isFound := n.find(from, to)
	return isFound
}

func isAny(option) bool { return true }

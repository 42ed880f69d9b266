package shaft

import (
	"slices"

	"calx/api"
)

// net is marks with ties between them; from each mark a path leads to each other one, since every record is tied both ways.
type net struct {
	marks int
	ties  []api.Tie
}

// netOf returns the net of a kiln.
func netOf(k api.Kiln) net {
	return net{1 + len(k.Loads) + len(k.Draws), slices.Collect(ties(k))}
}

// with returns the net with further ties.
func (n net) with(more ...api.Tie) net {
	return net{n.marks, slices.Concat(n.ties, more)}
}

// far is more than any path adds up to; it stands for a mark that no path has reached yet.
const far = 1 << 40

// none stands for the index of no tie, and for no mark.
const none = -1

// spread is how much all marks lie above the mark from at most, and the ties by which the least paths from it reach them.
type spread struct {
	from int
	most heights
	by   heights
}

// spread returns how much all marks lie above one of them at most, and none; or, if the ties contradict each other, a mark that a circle leads to.
func (n net) spread(from int) (spread, int) {
	s := spread{from: from}
	for mark := range n.marks {
		s.most[mark], s.by[mark] = far, none
	}
	s.most[from] = 0
	loose := none
rounds:
	for round := range n.marks {
		settled := true
		for i, t := range n.ties {
			if s.most[t.From] == far || s.most[t.From]+t.Most >= s.most[t.To] {
				continue
			}
			s.most[t.To] = s.most[t.From] + t.Most
			s.by[t.To] = i
			settled = false
			// A path without a circle has fewer ties than there are marks, so that only a circle leads on now.
			if round == n.marks-1 {
				loose = t.To
				break rounds
			}
		}
		if settled {
			break rounds
		}
	}
	return s, loose
}

// agrees reports whether there are heights that keep all ties.
func (n net) agrees() bool {
	_, loose := n.spread(0)
	return loose == none
}

// path returns the ties of a least path to a mark.
func (n net) path(s spread, to int) []int {
	var l []int
	for mark := to; mark != s.from; {
		i := s.by[mark]
		l = append(l, i)
		mark = n.ties[i].From
	}
	slices.Reverse(l)
	return l
}

// circle returns the circle from which a loose mark was reached.
func (n net) circle(s spread, loose int) []int {
	// The mark itself may lie outside of the circle, but after so many steps back one is inside.
	mark := loose
	for range n.marks {
		mark = n.ties[s.by[mark]].From
	}
	first := s.by[mark]
	l := []int{first}
	for at := n.ties[first].From; at != mark; {
		i := s.by[at]
		l = append(l, i)
		at = n.ties[i].From
	}
	slices.Reverse(l)
	return l
}

// walk follows a path of ties from a mark, and returns where it ends and its sum, or false if it is no path.
func (n net) walk(from int, path []int) (int, int, bool) {
	at, sum := from, 0
	for _, i := range path {
		if i < 0 || i >= len(n.ties) || n.ties[i].From != at {
			return 0, 0, false
		}
		at = n.ties[i].To
		sum += n.ties[i].Most
	}
	return at, sum, true
}

// ends returns the least and the greatest weight of a part.
func (n net) ends(p part) (api.Span, api.Errno) {
	up, loose := n.spread(p.ahead)
	if loose != none {
		return api.Span{}, api.ErrClash
	}
	down, _ := n.spread(p.own)
	return api.Span{Lo: -down.most[p.ahead], Hi: up.most[p.own]}, api.OK
}

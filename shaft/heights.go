package shaft

import "calx/api"

// size is the number of marks of the greatest kiln.
const size = 1 + api.MaxLoads + api.MaxDraws

// heights is a number for each mark of a kiln.
type heights [size]int

// heightsOf returns the heights of the marks of a kiln by weights.
func heightsOf(k api.Kiln, t api.Truth) heights {
	var h heights
	loads(k).pile(&h, t.Loads)
	draws(k).pile(&h, t.Draws)
	return h
}

// pile sets the heights of the marks of a row.
func (r row[T]) pile(h *heights, weights []int) {
	for i, weight := range weights {
		p := r.part(i)
		h[p.own] = h[p.ahead] + weight
	}
}

// truthOf returns the weights by which the marks of a kiln have heights, of which only the differences count.
func truthOf(k api.Kiln, h heights) api.Truth {
	return api.Truth{Loads: loads(k).weights(h), Draws: draws(k).weights(h)}
}

// weights returns what the records of a row weigh by heights.
func (r row[T]) weights(h heights) []int {
	l := make([]int, len(r.list))
	for i := range r.list {
		p := r.part(i)
		l[i] = h[p.own] - h[p.ahead]
	}
	return l
}

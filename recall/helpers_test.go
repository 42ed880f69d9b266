package recall_test

import (
	"math"
	"math/rand/v2"
	"slices"

	"calx/api"
)

func list(l ...int) []int { return l }

func node(id, level, cost int) api.Node { return api.Node{ID: id, Level: level, Cost: cost} }

func nodes(l ...api.Node) []api.Node { return l }

func hop(from, to int) api.Hop { return api.Hop{From: from, To: to} }

func claim(id int, options ...api.Hop) api.Claim { return api.Claim{ID: id, Options: options} }

func claims(l ...api.Claim) []api.Claim { return l }

func lineage(n []api.Node, c ...api.Claim) api.Lineage { return api.Lineage{Nodes: n, Claims: c} }

func trace(c []int, links ...int) api.Trace { return api.Trace{Case: c, Claims: links} }

// exampleNodes are the nodes of the chapter's examples.
func exampleNodes() []api.Node {
	return nodes(node(1, 0, 0), node(2, 0, 0), node(3, 3, 0), node(4, 3, 0), node(5, 9, 10), node(6, 9, 7))
}

// example is the lineage of the chapter's examples.
func example() api.Lineage {
	return lineage(exampleNodes(), claim(11, hop(1, 3)), claim(12, hop(1, 4), hop(2, 4)), claim(13, hop(3, 5)), claim(14, hop(4, 5), hop(4, 6)))
}

// either is a lineage in which one record has both steps of the only way from 1 to 3, so that no case has both.
func either() api.Lineage {
	return lineage(nodes(node(1, 0, 0), node(2, 4, 0), node(3, 9, 5)), claim(7, hop(1, 2), hop(2, 3)))
}

// far are numbers that are no IDs.
func far() []int { return list(0, -1, api.MaxID+1, math.MaxInt, math.MinInt) }

func clone(l api.Lineage) api.Lineage {
	l = lineage(slices.Clone(l.Nodes), slices.Clone(l.Claims)...)
	for i := range l.Claims {
		l.Claims[i].Options = slices.Clone(l.Claims[i].Options)
	}
	return l
}

func equalClaims(x, y api.Claim) bool { return x.ID == y.ID && slices.Equal(x.Options, y.Options) }

func equal(a, b api.Lineage) bool {
	return slices.Equal(a.Nodes, b.Nodes) && slices.EqualFunc(a.Claims, b.Claims, equalClaims)
}

// idsOf returns the IDs of nodes, in order.
func idsOf(l api.Lineage) []int {
	var ids []int
	for _, x := range l.Nodes {
		ids = append(ids, x.ID)
	}
	slices.Sort(ids)
	return ids
}

// linksOf returns the IDs of records, in order.
func linksOf(l api.Lineage) []int {
	var ids []int
	for _, x := range l.Claims {
		ids = append(ids, x.ID)
	}
	slices.Sort(ids)
	return ids
}

// chance makes lineages at random, the same for the same seed.
type chance struct{ *rand.Rand }

func chanceOf(seed uint64) chance { return chance{rand.New(rand.NewPCG(seed, 9))} }

// from returns a number from lo to hi.
func (c chance) from(lo, hi int) int { return lo + c.IntN(hi-lo+1) }

// ids returns so many different IDs, in any order; some of them are great.
func (c chance) ids(many int) []int {
	ids := c.Perm(3 * many)[:many]
	for i := range ids {
		ids[i]++
		if c.IntN(9) == 0 {
			ids[i] = api.MaxID + 1 - ids[i]
		}
	}
	return ids
}

// level returns the level of a node: often that of a charge or of a wall.
func (c chance) level() int {
	switch c.IntN(4) {
	case 0:
		return api.LvCharge
	case 1:
		return api.LvWall
	}
	return c.from(api.LvCharge, api.LvWall)
}

// lineage returns a lineage of so many nodes, and of about so many records, with at most so many cases.
func (c chance) lineage(many, links, cases int) api.Lineage {
	var l api.Lineage
	for _, id := range c.ids(many) {
		l.Nodes = append(l.Nodes, node(id, c.level(), c.IntN(5)))
	}
	l.Nodes[0].Level, l.Nodes[many-1].Level = api.LvCharge, api.LvWall
	c.Shuffle(many, func(i, k int) { l.Nodes[i], l.Nodes[k] = l.Nodes[k], l.Nodes[i] })
	for _, id := range c.ids(links) {
		options := c.options(l.Nodes)
		if cases < len(options) {
			options = options[:1]
		}
		cases /= len(options)
		l.Claims = append(l.Claims, claim(id, options...))
	}
	return l
}

// options returns options of a record: one as often as more.
func (c chance) options(n []api.Node) []api.Hop {
	many := 1 + c.IntN(2)*c.IntN(api.MaxOptions)
	var l []api.Hop
	for tries := 0; len(l) < many && (tries < 20 || len(l) == 0); tries++ {
		x, y := n[c.IntN(len(n))], n[c.IntN(len(n))]
		if x.Level < y.Level && !slices.Contains(l, hop(x.ID, y.ID)) {
			l = append(l, hop(x.ID, y.ID))
		}
	}
	return l
}

// some returns a list of nodes: often a single one, and often charges.
func (c chance) some(l api.Lineage) []int {
	n := slices.Clone(l.Nodes)
	c.Shuffle(len(n), func(i, k int) { n[i], n[k] = n[k], n[i] })
	if c.IntN(3) > 0 {
		slices.SortStableFunc(n, func(x, y api.Node) int { return x.Level - y.Level })
	}
	return idsOf(api.Lineage{Nodes: n[:c.from(1, min(1+c.IntN(3), len(n)))]})
}

// shuffled returns the same nodes and records in another order.
func (c chance) shuffled(l api.Lineage) api.Lineage {
	l = clone(l)
	c.Shuffle(len(l.Nodes), func(i, k int) { l.Nodes[i], l.Nodes[k] = l.Nodes[k], l.Nodes[i] })
	c.Shuffle(len(l.Claims), func(i, k int) { l.Claims[i], l.Claims[k] = l.Claims[k], l.Claims[i] })
	return l
}

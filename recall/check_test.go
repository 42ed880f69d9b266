package recall_test

import (
	"math"
	"slices"
	"testing"

	"calx/api"
	"calx/recall"
)

// row returns so many nodes, one level above the other from level 0 on, and around again.
func row(many int) []api.Node {
	var l []api.Node
	for i := range many {
		l = append(l, node(i+1, i%10, i))
	}
	return l
}

// links returns so many records with as many options.
func links(many, options int) []api.Claim {
	var l []api.Claim
	for i := range many {
		l = append(l, claim(i+1, []api.Hop{hop(1, 2), hop(2, 3), hop(1, 3), hop(3, 4)}[:options]...))
	}
	return l
}

func TestExample(t *testing.T) {
	if e := recall.Check(example()); e != api.OK {
		t.Error("P9.1:", e)
	}
	if n, e := recall.Cases(example()); n != 4 || e != api.OK {
		t.Error("P9.1:", n, e)
	}
}

// TestRight: what is at the limits is right.
func TestRight(t *testing.T) {
	two := nodes(node(1, 0, 0), node(2, 9, 0))
	for _, x := range []struct {
		l     api.Lineage
		cases int
	}{
		{api.Lineage{}, 1},
		{lineage(two), 1},
		{lineage(two, claim(1, hop(1, 2))), 1},
		{lineage(nodes(node(api.MaxID, 9, api.MaxCost9), node(1, 0, 0)), claim(api.MaxID, hop(1, api.MaxID))), 1},
		{lineage(nodes(node(1, 4, 0), node(2, 5, 0)), claim(1, hop(1, 2))), 1},
		{lineage(row(60)), 1},
		{lineage(row(60), links(80, 1)...), 1},
		{lineage(row(60), links(12, 2)...), 4096},
		{lineage(row(60), links(6, 4)...), 4096},
		{lineage(row(60), links(7, 3)...), 2187},
		{lineage(row(60), append(links(5, 4), claim(6, hop(1, 2), hop(2, 3)), claim(7, hop(1, 2), hop(2, 3)))...), 4096},
		{lineage(row(4), claim(4, hop(1, 2), hop(2, 3), hop(1, 3), hop(2, 4))), 4},
		// A node and a record may have the same ID, and records the same options.
		{lineage(two, claim(1, hop(1, 2)), claim(2, hop(1, 2))), 1},
	} {
		if e := recall.Check(x.l); e != api.OK {
			t.Error("P9.1:", x.l, e)
		}
		if n, e := recall.Cases(x.l); n != x.cases || e != api.OK {
			t.Error("P9.1:", x.l, n, e)
		}
	}
}

// fault is a lineage that is wrong, and its error.
type fault struct {
	name string
	l    api.Lineage
	want api.Errno
}

// faults are lineages that are wrong.
func faults() []fault {
	n := exampleNodes()
	wrong := node(1, 10, 0)
	hops := []api.Hop{hop(1, 2), hop(2, 3), hop(1, 3), hop(3, 4), hop(1, 4)}
	l := []fault{
		{"too many nodes", lineage(row(61)), api.ErrLimit},
		{"very many nodes", lineage(make([]api.Node, 100000)), api.ErrLimit},
		{"too many records", lineage(row(60), links(81, 1)...), api.ErrLimit},
		{"too many records ahead of a wrong node", lineage(nodes(wrong), links(81, 1)...), api.ErrLimit},
		{"too many nodes, the first one wrong", lineage(append(nodes(wrong), row(60)...)), api.ErrLimit},
		{"a node twice", lineage(append(n, node(3, 3, 0))), api.ErrTwice},
		{"a node twice, otherwise", lineage(append(n, node(6, 1, 1))), api.ErrTwice},
		{"a node twice, and it is wrong", lineage(append(n, node(3, 3, -1))), api.ErrArg},
		{"a node twice ahead of a wrong one", lineage(append(n, node(3, 3, 0), wrong)), api.ErrTwice},
		{"a wrong node ahead of one twice", lineage(append(n, wrong, node(3, 3, 0))), api.ErrArg},
		{"a node twice, and a wrong record", lineage(append(n, node(3, 3, 0)), claim(0)), api.ErrTwice},
		{"a wrong node, and a record twice", lineage(append(n, wrong), claim(1, hop(1, 3)), claim(1, hop(1, 3))), api.ErrArg},
		{"no options", lineage(n, claim(1)), api.ErrArg},
		{"five options", lineage(row(5), claim(1, hops...)), api.ErrArg},
		{"very many options", lineage(row(5), claim(1, make([]api.Hop, 100000)...)), api.ErrArg},
		{"an option twice", lineage(n, claim(1, hop(1, 3), hop(1, 3))), api.ErrArg},
		{"an option twice, with others between", lineage(n, claim(1, hop(1, 3), hop(1, 4), hop(2, 4), hop(1, 3))), api.ErrArg},
		{"a record twice", lineage(n, claim(1, hop(1, 3)), claim(1, hop(1, 3))), api.ErrTwice},
		{"a record twice, otherwise", lineage(n, claim(1, hop(1, 3)), claim(2, hop(1, 3)), claim(1, hop(2, 3))), api.ErrTwice},
		{"a record twice, and it is wrong", lineage(n, claim(1, hop(1, 3)), claim(1, hop(3, 1))), api.ErrArg},
		{"a record twice ahead of a wrong one", lineage(n, claim(1, hop(1, 3)), claim(1, hop(1, 3)), claim(2)), api.ErrTwice},
		{"a wrong record ahead of one twice", lineage(n, claim(1, hop(1, 3)), claim(2), claim(1, hop(1, 3))), api.ErrArg},
		{"a record of no nodes", lineage(nil, claim(1, hop(1, 2))), api.ErrArg},
		{"too many cases of two", lineage(row(60), links(13, 2)...), api.ErrLimit},
		{"too many cases of three", lineage(row(60), links(8, 3)...), api.ErrLimit},
		{"too many cases of four", lineage(row(60), links(7, 4)...), api.ErrLimit},
		{"a few too many cases", lineage(row(60), append(links(7, 3), claim(8, hop(1, 2), hop(2, 3)))...), api.ErrLimit},
		// 2 to the 64, and more, are not told from 0 by their last bits.
		{"cases that wrap around", lineage(row(60), links(32, 4)...), api.ErrLimit},
		{"cases that wrap around to a negative number", lineage(row(60), append(links(31, 4), claim(99, hop(1, 2), hop(2, 3)))...), api.ErrLimit},
		{"the most cases", lineage(row(60), links(80, 4)...), api.ErrLimit},
		{"too many cases, and a record twice", lineage(row(60), append(links(80, 4)[:79], claim(1, hop(1, 2)))...), api.ErrTwice},
		{"too many cases, and a wrong record", lineage(row(60), append(links(80, 4)[:79], claim(99, hop(2, 1)))...), api.ErrArg},
	}
	return append(l, wrongNumbers()...)
}

// wrongNumbers are lineages with a number that is out of bounds.
func wrongNumbers() []fault {
	var l []fault
	add := func(name string, x api.Lineage) { l = append(l, fault{name, x, api.ErrArg}) }
	for _, n := range far() {
		add("the ID of a node", lineage(nodes(node(1, 0, 0), node(n, 1, 1))))
		add("the ID of a record", lineage(exampleNodes(), claim(n, hop(1, 3))))
		add("where an option begins", lineage(exampleNodes(), claim(1, hop(n, 3))))
		add("where an option ends", lineage(exampleNodes(), claim(1, hop(1, 3), hop(1, n))))
	}
	for _, n := range list(-1, 10, math.MaxInt, math.MinInt) {
		add("the level of a node", lineage(nodes(node(1, 0, 0), node(2, n, 1))))
	}
	for _, n := range list(-1, api.MaxCost9+1, math.MaxInt, math.MinInt) {
		add("the cost of a node", lineage(nodes(node(1, 0, 0), node(2, 1, n))))
	}
	for _, o := range []api.Hop{hop(3, 1), hop(3, 4), hop(4, 3), hop(1, 1), hop(5, 6), hop(1, 7), hop(7, 5), hop(7, 8), hop(5, 1)} {
		add("an option", lineage(exampleNodes(), claim(1, o)))
		add("an option behind a right one", lineage(exampleNodes(), claim(1, hop(1, 3), o)))
		add("an option of a record behind a right one", lineage(exampleNodes(), claim(1, hop(1, 3)), claim(2, hop(1, 3), o, hop(2, 3))))
	}
	return l
}

func TestFaults(t *testing.T) {
	for _, f := range faults() {
		if e := recall.Check(f.l); e != f.want {
			t.Error("P9.1:", f.name, e)
		}
		if n, e := recall.Cases(f.l); n != 0 || e != f.want {
			t.Error("P9.1:", f.name, n, e)
		}
	}
}

// TestCasesAtRandom: there are as many cases as are counted out, and all of them are taken as cases.
func TestCasesAtRandom(t *testing.T) {
	c := chanceOf(1)
	for range 200 {
		l := c.lineage(c.from(2, 8), c.from(0, 7), 256)
		if e := recall.Check(l); e != api.OK {
			t.Fatal("P9.1:", l, e)
		}
		all := casesOf(l)
		if n, e := recall.Cases(l); n != len(all) || e != api.OK {
			t.Error("P9.1:", l, n, e)
		}
		from := c.some(l)
		for _, choice := range all {
			if _, e := recall.Reach(l, from, choice); e != api.OK {
				t.Error("P9.2:", l, choice, e)
			}
		}
	}
}

// arguments are those of all functions.
type arguments struct {
	l                   api.Lineage
	from, links, choice []int
	to, link, option    int
}

// call is a function: the kinds of arguments that it has, and what it returns.
type call struct {
	name, kinds string
	do          func(a arguments) (bool, api.Errno)
}

// calls are all functions with one lineage; each one tells whether all results are zero, too.
func calls() []call {
	none := func(l []int, e api.Errno) (bool, api.Errno) { return len(l) == 0, e }
	noLineage := func(l api.Lineage, e api.Errno) (bool, api.Errno) { return equal(l, api.Lineage{}), e }
	only := func(e api.Errno) (bool, api.Errno) { return true, e }
	return []call{
		{"Cases", "", func(a arguments) (bool, api.Errno) { n, e := recall.Cases(a.l); return n == 0, e }},
		{"Reach", "fc", func(a arguments) (bool, api.Errno) { return none(recall.Reach(a.l, a.from, a.choice)) }},
		{"Surely", "f", func(a arguments) (bool, api.Errno) { return none(recall.Surely(a.l, a.from)) }},
		{"Possibly", "f", func(a arguments) (bool, api.Errno) { return none(recall.Possibly(a.l, a.from)) }},
		{"Way", "ft", func(a arguments) (bool, api.Errno) {
			x, e := recall.Way(a.l, a.from, a.to)
			return len(x.Case) == 0 && len(x.Claims) == 0, e
		}},
		{"CheckWay", "ft", func(a arguments) (bool, api.Errno) { return only(recall.CheckWay(a.l, a.from, a.to, api.Trace{})) }},
		{"Clear", "ft", func(a arguments) (bool, api.Errno) { return none(recall.Clear(a.l, a.from, a.to)) }},
		{"CheckClear", "ftc", func(a arguments) (bool, api.Errno) { return only(recall.CheckClear(a.l, a.from, a.to, a.choice)) }},
		{"Origins", "t", func(a arguments) (bool, api.Errno) {
			sure, possible, e := recall.Origins(a.l, a.to)
			return len(sure) == 0 && len(possible) == 0, e
		}},
		{"Hangs", "ft", func(a arguments) (bool, api.Errno) { return none(recall.Hangs(a.l, a.from, a.to)) }},
		{"Gates", "ft", func(a arguments) (bool, api.Errno) { return none(recall.Gates(a.l, a.from, a.to)) }},
		{"Cut", "ft", func(a arguments) (bool, api.Errno) { return none(recall.Cut(a.l, a.from, a.to)) }},
		{"CheckCut", "ftl", func(a arguments) (bool, api.Errno) { return only(recall.CheckCut(a.l, a.from, a.to, a.links)) }},
		{"Share", "ft", func(a arguments) (bool, api.Errno) {
			x, e := recall.Share(a.l, a.from, a.to)
			return x == api.Ratio{}, e
		}},
		{"Recall", "f", func(a arguments) (bool, api.Errno) {
			l, n, e := recall.Recall(a.l, a.from, a.option == 0)
			return len(l) == 0 && n == 0, e
		}},
		{"Ask", "f", func(a arguments) (bool, api.Errno) {
			id, n, e := recall.Ask(a.l, a.from)
			return id == 0 && n == 0, e
		}},
		{"Told", "ko", func(a arguments) (bool, api.Errno) { return noLineage(recall.Told(a.l, a.link, a.option)) }},
		{"Denied", "ko", func(a arguments) (bool, api.Errno) { return noLineage(recall.Denied(a.l, a.link, a.option)) }},
		{"Without", "l", func(a arguments) (bool, api.Errno) { return noLineage(recall.Without(a.l, a.links)) }},
	}
}

// wrongs are wrong arguments of each kind, in the order in which their errors are looked for.
func wrongs() []struct {
	kind rune
	want api.Errno
	all  []func(a *arguments)
} {
	type change = func(a *arguments)
	var from, to, links, choice, link, option []change
	for _, l := range [][]int{nil, {}, {0}, {7}, {11}, {-1}, {1, 1}, {2, 1}, {1, 7}, {0, 1}, {1, 3, 2}, {1, 2, 2}, {math.MaxInt}, {math.MinInt, 1}, make([]int, 100000)} {
		from = append(from, func(a *arguments) { a.from = l })
	}
	for _, id := range append(far(), 7, 11) {
		to = append(to, func(a *arguments) { a.to = id })
	}
	for _, l := range [][]int{{0}, {1}, {11, 11}, {12, 11}, {11, 15}, {10, 11}, {11, 13, 12}, {math.MinInt, 11}, make([]int, 100000)} {
		links = append(links, func(a *arguments) { a.links = l })
	}
	for _, l := range [][]int{nil, {}, {0, 0, 0}, {0, 0, 0, 0, 0}, {1, 0, 0, 0}, {0, 2, 0, 0}, {0, 0, 1, 0}, {0, 0, 0, 2}, {-1, 0, 0, 0}, {0, -1, 0, 0}, {0, 0, 0, math.MaxInt}, {0, math.MinInt, 0, 0}, make([]int, 100000)} {
		choice = append(choice, func(a *arguments) { a.choice = l })
	}
	for _, id := range append(far(), 1, 15) {
		link = append(link, func(a *arguments) { a.link = id })
	}
	for _, at := range list(-1, 2, math.MaxInt, math.MinInt) {
		option = append(option, func(a *arguments) { a.option = at })
	}
	return []struct {
		kind rune
		want api.Errno
		all  []func(a *arguments)
	}{{'f', api.ErrArg, from}, {'t', api.ErrNone, to}, {'l', api.ErrArg, links}, {'c', api.ErrArg, choice}, {'k', api.ErrNone, link}, {'o', api.ErrArg, option}}
}

// rightArguments are those for which no function has an error, but CheckWay.
func rightArguments() arguments {
	return arguments{example(), list(1), list(13, 14), list(0, 1, 0, 0), 6, 12, 1}
}

// TestArguments: each wrong argument has its error, also if those that are looked for later are wrong, too.
func TestArguments(t *testing.T) {
	for _, f := range calls() {
		if _, e := f.do(rightArguments()); e != api.OK && f.name != "CheckWay" {
			t.Error(f.name, "of right arguments:", e)
		}
		for i, w := range wrongs() {
			if !slices.Contains([]rune(f.kinds), w.kind) {
				continue
			}
			for k, change := range w.all {
				a := rightArguments()
				change(&a)
				if zero, e := f.do(a); !zero || e != w.want {
					t.Error(f.name, string(w.kind), k, zero, e)
				}
				for _, later := range wrongs()[i+1:] {
					later.all[k%len(later.all)](&a)
				}
				if zero, e := f.do(a); !zero || e != w.want {
					t.Error(f.name, "in order:", string(w.kind), k, zero, e)
				}
			}
		}
	}
}

// TestFaultsFirst: the error of the lineage comes first, whatever else is wrong.
func TestFaultsFirst(t *testing.T) {
	for _, f := range calls() {
		for _, x := range faults() {
			a := rightArguments()
			a.l = x.l
			for range 2 {
				if zero, e := f.do(a); !zero || e != x.want {
					t.Error(f.name, x.name, zero, e)
				}
				a = arguments{l: x.l, from: list(7, 7), links: list(-3), to: -2, link: -2, option: -2}
			}
		}
	}
}

// TestLastErrors: what is looked for last does not hide what is wrong with arguments, and all results are zero with it.
func TestLastErrors(t *testing.T) {
	for _, x := range []struct {
		name string
		a    arguments
		want api.Errno
	}{
		{"Way", arguments{l: example(), from: list(5), to: 1}, api.ErrNone},
		{"Way", arguments{l: either(), from: list(1), to: 3}, api.ErrNone},
		{"Clear", arguments{l: example(), from: list(1), to: 5}, api.ErrNone},
		{"Clear", arguments{l: example(), from: list(6), to: 6}, api.ErrNone},
		{"Hangs", arguments{l: example(), from: list(5), to: 6}, api.ErrNone},
		{"Hangs", arguments{l: either(), from: list(1), to: 3}, api.ErrNone},
		{"Gates", arguments{l: example(), from: list(5), to: 6}, api.ErrNone},
		{"Gates", arguments{l: either(), from: list(1), to: 3}, api.ErrNone},
		{"Cut", arguments{l: example(), from: list(1, 5), to: 5}, api.ErrNone},
		{"Ask", arguments{l: less(example(), 12, 14), from: list(1)}, api.ErrNone},
		{"Ask", arguments{l: lineage(exampleNodes()), from: list(1)}, api.ErrNone},
		{"Denied", arguments{l: example(), link: 11}, api.ErrClash},
		{"CheckClear", arguments{l: example(), from: list(1), to: 5, choice: list(0, 0, 0, 0)}, api.ErrProof},
		{"CheckCut", arguments{l: example(), from: list(1), to: 5, links: list(11)}, api.ErrProof},
		{"CheckWay", arguments{l: example(), from: list(1), to: 5}, api.ErrProof},
	} {
		for _, f := range calls() {
			if f.name != x.name {
				continue
			}
			if zero, e := f.do(x.a); !zero || e != x.want {
				t.Error(x.name, x.a, zero, e)
			}
		}
	}
}

package recall_test

import (
	"slices"
	"testing"

	"calx/api"
	"calx/recall"
)

func TestToldByHand(t *testing.T) {
	for _, x := range []struct {
		link, option int
		want         api.Claim
	}{
		{12, 0, claim(12, hop(1, 4))}, {12, 1, claim(12, hop(2, 4))}, {14, 0, claim(14, hop(4, 5))}, {14, 1, claim(14, hop(4, 6))}, {11, 0, claim(11, hop(1, 3))},
	} {
		want := example()
		want.Claims[x.link-11] = x.want
		if l, e := recall.Told(example(), x.link, x.option); !equal(l, want) || e != api.OK {
			t.Error("P9.11:", x, l, e)
		}
	}
}

func TestDeniedByHand(t *testing.T) {
	four := lineage(exampleNodes(), claim(3, hop(1, 3)), claim(2, hop(2, 4), hop(1, 6), hop(1, 5), hop(1, 3)))
	for _, x := range []struct {
		l            api.Lineage
		link, option int
		at           int
		want         api.Claim
	}{
		{example(), 12, 0, 1, claim(12, hop(2, 4))}, {example(), 12, 1, 1, claim(12, hop(1, 4))}, {example(), 14, 1, 3, claim(14, hop(4, 5))},
		{four, 2, 0, 1, claim(2, hop(1, 6), hop(1, 5), hop(1, 3))}, {four, 2, 1, 1, claim(2, hop(2, 4), hop(1, 5), hop(1, 3))}, {four, 2, 3, 1, claim(2, hop(2, 4), hop(1, 6), hop(1, 5))},
	} {
		want := clone(x.l)
		want.Claims[x.at] = x.want
		if l, e := recall.Denied(x.l, x.link, x.option); !equal(l, want) || e != api.OK {
			t.Error("P9.11:", x, l, e)
		}
	}
	for _, link := range list(11, 13) {
		if l, e := recall.Denied(example(), link, 0); !equal(l, api.Lineage{}) || e != api.ErrClash {
			t.Error("P9.11:", link, l, e)
		}
		if _, e := recall.Denied(example(), link, 1); e != api.ErrArg {
			t.Error("P9.11:", link, e)
		}
	}
}

func TestWithoutByHand(t *testing.T) {
	l := example()
	for _, x := range []struct {
		links []int
		want  []api.Claim
	}{
		{nil, l.Claims}, {list(), l.Claims}, {list(11), l.Claims[1:]}, {list(14), l.Claims[:3]}, {list(12, 13), claims(l.Claims[0], l.Claims[3])}, {list(11, 12, 13, 14), nil},
	} {
		if got, e := recall.Without(l, x.links); !equal(got, lineage(l.Nodes, x.want...)) || e != api.OK {
			t.Error("P9.11:", x, got, e)
		}
	}
	if got, e := recall.Without(api.Lineage{}, nil); !equal(got, api.Lineage{}) || e != api.OK {
		t.Error("P9.11:", got, e)
	}
}

func TestJoinByHand(t *testing.T) {
	l := example()
	a := lineage(l.Nodes[:4], l.Claims[:2]...)
	b := lineage(nodes(l.Nodes[5], l.Nodes[4], l.Nodes[3], l.Nodes[2]), l.Claims[3], l.Claims[2])
	n := nodes(node(1, 0, 0), node(2, 0, 0), node(3, 3, 0), node(4, 3, 0), node(6, 9, 7), node(5, 9, 10))
	for _, x := range []struct {
		name       string
		a, b, want api.Lineage
	}{
		{"two parts", a, b, lineage(n, l.Claims[0], l.Claims[1], l.Claims[3], l.Claims[2])},
		{"the same twice", l, l, l},
		{"nothing behind", l, api.Lineage{}, l},
		{"nothing ahead", api.Lineage{}, l, l},
		{"nothing at all", api.Lineage{}, api.Lineage{}, api.Lineage{}},
		{"a part of the other one", a, l, l},
		{"the other one in part", l, a, l},
		{"a record with the ID of a node", a, lineage(l.Nodes, claim(1, hop(1, 5))), lineage(l.Nodes, l.Claims[0], l.Claims[1], claim(1, hop(1, 5)))},
	} {
		if got, e := recall.Join(x.a, x.b); !equal(got, x.want) || e != api.OK {
			t.Error("P9.11:", x.name, got, e)
		}
	}
}

func TestJoinErrors(t *testing.T) {
	l := example()
	other := func(change func(l *api.Lineage)) api.Lineage {
		m := clone(l)
		change(&m)
		return m
	}
	apart := func(many, first int) []api.Node {
		n := row(many)
		for i := range n {
			n[i].ID += first
		}
		return n
	}
	far := links(41, 1)
	for i := range far {
		far[i].ID += 1000
	}
	cases := links(7, 2)
	for i := range cases {
		cases[i].ID += 1000
	}
	for _, x := range []struct {
		name string
		a, b api.Lineage
		want api.Errno
	}{
		{"another level", l, other(func(l *api.Lineage) { l.Nodes[2].Level = 4 }), api.ErrClash},
		{"another cost", l, other(func(l *api.Lineage) { l.Nodes[5].Cost = 8 }), api.ErrClash},
		{"another option", l, other(func(l *api.Lineage) { l.Claims[0].Options[0].To = 4 }), api.ErrClash},
		{"an option less", l, other(func(l *api.Lineage) { l.Claims[1].Options = l.Claims[1].Options[:1] }), api.ErrClash},
		{"an option more", l, other(func(l *api.Lineage) { l.Claims[2] = claim(13, hop(3, 5), hop(3, 6)) }), api.ErrClash},
		{"options in another order", l, other(func(l *api.Lineage) { slices.Reverse(l.Claims[1].Options) }), api.ErrClash},
		{"too many nodes", lineage(row(60)), lineage(nodes(node(61, 0, 0))), api.ErrLimit},
		{"too many nodes on both sides", lineage(row(40)), lineage(apart(40, 40)), api.ErrLimit},
		{"too many nodes, one of them another", lineage(row(60)), lineage(nodes(node(61, 0, 0), node(1, 1, 1))), api.ErrClash},
		{"too many nodes, and another record", lineage(row(60), claim(1, hop(1, 2))), lineage(append(row(3), node(61, 0, 0)), claim(1, hop(1, 3))), api.ErrClash},
		{"too many records", lineage(row(60), links(40, 1)...), lineage(row(60), far...), api.ErrLimit},
		{"too many records, one of them another", lineage(row(60), links(80, 1)...), lineage(row(60), claim(81, hop(1, 2)), claim(1, hop(1, 3))), api.ErrClash},
		{"too many cases", lineage(row(60), links(6, 2)...), lineage(row(60), cases...), api.ErrLimit},
		{"just so many cases", lineage(row(60), links(5, 2)...), lineage(row(60), cases...), api.OK},
		{"just so many nodes", lineage(row(60)), lineage(row(10)), api.OK},
		{"just so many nodes of both", lineage(row(30)), lineage(apart(30, 30)), api.OK},
		{"just so many records", lineage(row(60), links(39, 1)...), lineage(row(60), far...), api.OK},
		{"another node ahead of a wrong lineage", lineage(nodes(node(1, 0, 0))), lineage(nodes(node(1, 1, 1), node(0, 0, 0))), api.ErrArg},
	} {
		got, e := recall.Join(x.a, x.b)
		if e != x.want || e != api.OK && !equal(got, api.Lineage{}) {
			t.Error("P9.11:", x.name, got, e)
		}
		if got, e = recall.Join(x.b, x.a); e != x.want || e != api.OK && !equal(got, api.Lineage{}) {
			t.Error("P9.11:", x.name, "in turn:", got, e)
		}
	}
	for _, f := range faults() {
		for _, x := range [][2]api.Lineage{{f.l, l}, {l, f.l}, {f.l, f.l}, {lineage(nodes(node(1, 5, 5))), f.l}} {
			if got, e := recall.Join(x[0], x[1]); !equal(got, api.Lineage{}) || e != f.want {
				t.Error("P9.11:", f.name, got, e)
			}
		}
		// The first lineage's error comes first.
		if _, e := recall.Join(f.l, lineage(row(61))); e != f.want {
			t.Error("P9.11:", f.name, e)
		}
		if _, e := recall.Join(lineage(append(row(3), row(3)...)), f.l); e != api.ErrTwice {
			t.Error("P9.11:", f.name, e)
		}
	}
}

// TestOthers: other lineages have the cases that are left.
func TestOthers(t *testing.T) {
	many(t, 61, 300, func(c chance, l api.Lineage, from []int) {
		for i, x := range l.Claims {
			for at, o := range x.Options {
				want := clone(l)
				want.Claims[i].Options = []api.Hop{o}
				if got, e := recall.Told(l, x.ID, at); !equal(got, want) || e != api.OK {
					t.Fatal("P9.11:", l, x, at, got, e)
				}
				want.Claims[i].Options = slices.DeleteFunc(slices.Clone(x.Options), func(other api.Hop) bool { return other == o })
				got, e := recall.Denied(l, x.ID, at)
				if len(x.Options) == 1 && (e != api.ErrClash || !equal(got, api.Lineage{})) || len(x.Options) > 1 && (e != api.OK || !equal(got, want)) {
					t.Fatal("P9.11:", l, x, at, got, e)
				}
			}
		}
		gone := slices.DeleteFunc(linksOf(l), func(int) bool { return c.IntN(2) == 0 })
		rest := slices.DeleteFunc(linksOf(l), func(id int) bool { return slices.Contains(gone, id) })
		a, e1 := recall.Without(l, gone)
		b, e2 := recall.Without(l, rest)
		if !equal(a, less(l, gone...)) || max(e1, e2) != api.OK {
			t.Fatal("P9.11:", l, gone, a, e1, e2)
		}
		// Both parts together are the whole, in the order of the first one.
		got, e := recall.Join(a, b)
		want := lineage(l.Nodes, append(slices.Clone(a.Claims), b.Claims...)...)
		if !equal(got, want) || e != api.OK {
			t.Fatal("P9.11:", a, b, got, e)
		}
	})
}

// TestTold: what is sure stays so, and what is possible was so before; a node is possible if it is for some option, and sure if it is for all.
func TestTold(t *testing.T) {
	many(t, 62, 300, func(c chance, l api.Lineage, from []int) {
		sure, possible := surely(l, from), possibly(l, from)
		for _, x := range l.Claims {
			in := map[int]int{}
			some := map[int]bool{}
			for at := range x.Options {
				told, e := recall.Told(l, x.ID, at)
				if e != api.OK || !isPart(sure, surely(told, from)) || !isPart(possibly(told, from), possible) {
					t.Fatal("P9.14:", l, from, x, at, e)
				}
				for _, id := range surely(told, from) {
					in[id]++
				}
				for _, id := range possibly(told, from) {
					some[id] = true
				}
				denied, e := recall.Denied(l, x.ID, at)
				if e == api.OK && (!isPart(sure, surely(denied, from)) || !isPart(possibly(denied, from), possible)) {
					t.Fatal("P9.14:", l, from, x, at)
				}
			}
			for _, id := range idsOf(l) {
				if slices.Contains(sure, id) != (in[id] == len(x.Options)) || slices.Contains(possible, id) != some[id] {
					t.Fatal("P9.14:", l, from, x, id)
				}
			}
		}
	})
}

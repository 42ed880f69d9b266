package recall_test

import (
	"slices"
	"testing"

	"calx/api"
	"calx/recall"
)

// spoil makes all of a list another thing, also behind its end.
func spoil[T any](l []T, x T) {
	l = l[:cap(l)]
	for i := range l {
		l[i] = x
	}
}

// spoilLineage likewise makes all of a lineage another thing.
func spoilLineage(l api.Lineage) {
	for _, x := range l.Claims {
		spoil(x.Options, hop(-7, -7))
	}
	spoil(l.Nodes, node(-7, -7, -7))
	spoil(l.Claims, claim(-7))
}

// roomy returns the example, with more behind the end of each list; and the lists as far as they go.
func roomy() (api.Lineage, api.Lineage) {
	l := example()
	for i, x := range l.Claims {
		l.Claims[i].Options = append(x.Options, hop(-7, -7), hop(-7, -7))
	}
	all := lineage(append(l.Nodes, node(-7, -7, -7)), append(l.Claims, claim(-7))...)
	l = lineage(all.Nodes[:6], slices.Clone(all.Claims)[:4]...)
	for i, x := range l.Claims {
		l.Claims[i].Options = x.Options[:len(x.Options)-2]
	}
	return l, all
}

// wide returns a list with more behind its end.
func wide(l ...int) []int { return append(slices.Clone(l), -7, -7)[:len(l)] }

// isKept reports whether a list is as it was, also behind its end.
func isKept(l []int, want ...int) bool {
	return slices.Equal(l[:len(l)+2], append(slices.Clone(want), -7, -7))
}

// useLists calls the functions that return lists and numbers, and spoils what they return.
func useLists(t *testing.T, l api.Lineage, from, choice, links []int) {
	t.Helper()
	reach, e1 := recall.Reach(l, from, choice)
	sure, e2 := recall.Surely(l, from)
	possible, e3 := recall.Possibly(l, from)
	first, second, e4 := recall.Origins(l, 5)
	hangs, e5 := recall.Hangs(l, from, 6)
	gates, e6 := recall.Gates(l, from, 6)
	cut, e7 := recall.Cut(l, from, 5)
	walls, cost, e8 := recall.Recall(l, from, false)
	share, e9 := recall.Share(l, from, 6)
	id, left, e10 := recall.Ask(l, from)
	wants := [][]int{{1, 3, 5}, {1, 3, 5}, {1, 3, 4, 5, 6}, {1}, {1, 2}, {12, 14}, {4}, {13, 14}, {5, 6}}
	for i, got := range [][]int{reach, sure, possible, first, second, hangs, gates, cut, walls} {
		if !slices.Equal(got, wants[i]) {
			t.Error("R6:", i, got)
		}
		spoil(got, -7)
	}
	if cost != 17 || share != (api.Ratio{Num: 1, Den: 4}) || id != 12 || left != 7 || max(e1, e2, e3, e4, e5, e6, e7, e8, e9, e10) != api.OK {
		t.Error("R6:", cost, share, id, left)
	}
	if e := recall.CheckCut(l, from, 5, links); e != api.OK {
		t.Error("R6:", e)
	}
}

// useProofs likewise calls the functions of proofs.
func useProofs(t *testing.T, l api.Lineage, from, choice []int) {
	t.Helper()
	x, e := recall.Way(l, from, 6)
	if !slices.Equal(x.Case, list(0, 0, 0, 1)) || !slices.Equal(x.Claims, list(12, 14)) || e != api.OK {
		t.Error("R6:", x, e)
	}
	kept := trace(wide(x.Case...), wide(x.Claims...)...)
	if e := recall.CheckWay(l, from, 6, kept); e != api.OK || !isKept(kept.Case, 0, 0, 0, 1) || !isKept(kept.Claims, 12, 14) {
		t.Error("R6:", kept, e)
	}
	spoil(x.Case, -7)
	if !slices.Equal(x.Claims, list(12, 14)) {
		t.Error("R6: the lists of a trace share memory:", x)
	}
	spoil(x.Claims, -7)
	c, e := recall.Clear(l, from, 6)
	if recall.CheckClear(l, from, 6, c) != api.OK || recall.CheckClear(l, from, 6, choice) != api.OK || e != api.OK {
		t.Error("R6:", c, e)
	}
	spoil(c, -7)
}

// useOthers likewise calls the functions that return lineages.
func useOthers(t *testing.T, l api.Lineage, links []int) {
	t.Helper()
	told, e1 := recall.Told(l, 12, 1)
	denied, e2 := recall.Denied(l, 12, 0)
	without, e3 := recall.Without(l, links)
	joined, e4 := recall.Join(without, l)
	want := example()
	want.Claims[1] = claim(12, hop(2, 4))
	if !equal(told, want) || !equal(denied, want) || !equal(without, less(example(), 13, 14)) || !equal(joined, example()) || max(e1, e2, e3, e4) != api.OK {
		t.Error("R6:", told, denied, without, joined)
	}
	for _, got := range []api.Lineage{told, denied, without, joined} {
		grown := append(got.Claims[0].Options, hop(-7, -7))
		spoil(grown, hop(-7, -7))
		spoil(got.Claims[0].Options, hop(-7, -7))
		if len(got.Claims[1].Options) == 0 || slices.Contains(got.Claims[1].Options, hop(-7, -7)) {
			t.Error("R6: options share memory:", got)
		}
	}
	for _, got := range []api.Lineage{told, denied, without, joined} {
		spoilLineage(got)
	}
	twice, e := recall.Join(l, l)
	if !equal(twice, example()) || e != api.OK {
		t.Error("R6:", twice, e)
	}
	spoilLineage(twice)
	// What is added must not be written behind the end of the first lineage.
	more := lineage(nodes(l.Nodes[0], node(7, 9, 1)), claim(15, hop(1, 7)))
	grown, e := recall.Join(l, more)
	if !equal(grown, lineage(append(exampleNodes(), node(7, 9, 1)), append(example().Claims, claim(15, hop(1, 7)))...)) || e != api.OK {
		t.Error("R6:", grown, e)
	}
	spoilLineage(grown)
	if !equal(more, lineage(nodes(node(1, 0, 0), node(7, 9, 1)), claim(15, hop(1, 7)))) {
		t.Error("R6: an argument is changed:", more)
	}
}

// TestMemory: arguments stay as they are, also behind their ends; results share no memory.
func TestMemory(t *testing.T) {
	l, all := roomy()
	from, choice, links := wide(1), wide(0, 1, 0, 0), wide(13, 14)
	for range 3 {
		useLists(t, l, from, choice, links)
		useProofs(t, l, from, choice)
		useOthers(t, l, links)
	}
	if !isKept(from, 1) || !isKept(choice, 0, 1, 0, 0) || !isKept(links, 13, 14) {
		t.Error("R6: an argument is changed:", from, choice, links)
	}
	kept, again := roomy()
	if !equal(l, kept) || !equal(all, again) || !slices.Equal(l.Nodes[:7], all.Nodes) || l.Claims[:5][4].ID != -7 {
		t.Error("R6: an argument is changed:", l, all)
	}
}

// TestAlike: the same is told each time, also what may be any of several (R7).
func TestAlike(t *testing.T) {
	many(t, 71, 60, func(c chance, l api.Lineage, from []int) {
		for _, to := range idsOf(l) {
			way, _ := recall.Way(l, from, to)
			clear, _ := recall.Clear(l, from, to)
			cut, _ := recall.Cut(l, from, to)
			for range 4 {
				x, _ := recall.Way(clone(l), slices.Clone(from), to)
				c, _ := recall.Clear(clone(l), slices.Clone(from), to)
				again, _ := recall.Cut(clone(l), slices.Clone(from), to)
				if !slices.Equal(x.Case, way.Case) || !slices.Equal(x.Claims, way.Claims) || !slices.Equal(c, clear) || !slices.Equal(again, cut) {
					t.Error("R7:", l, from, to)
				}
			}
		}
	})
}

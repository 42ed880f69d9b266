package pit_test

import (
	"slices"
	"testing"

	"calx/api"
	"calx/pit"
)

// spread is pits with 2 of pour 1: D has 1/16256 of it, C 127/16256, A 126/127; F has 1/16375, E 124/16375, and B 130/131.
func spread(a, b, c, d, e, f int, stirs ...api.Stir) api.Pits {
	return more(pits(slices.Repeat([]int{300}, 6),
		pour(1, 0, a, 2), move(0, a, b, 1),
		pour(2, 0, a, 126), turn(0, a), move(0, a, c, 1), pour(3, 0, c, 127), turn(0, c), move(0, c, d, 1),
		pour(4, 0, b, 130), turn(0, b), move(0, b, e, 1), pour(5, 0, e, 124), turn(0, e), move(0, e, f, 1)), stirs...)
}

func TestFateRange(t *testing.T) {
	type fate struct {
		left, lost api.Ratio
		e          api.Errno
	}
	fails := fate{e: api.ErrRange}
	for _, x := range []struct {
		name string
		p    api.Pits
		want fate
	}{
		{"the first two pits have a sum that cannot be told", spread(4, 5, 2, 0, 3, 1), fails},
		{"a sum with those ahead", spread(1, 0, 2, 4, 3, 5), fails},
		{"each beside what was divided with it", spread(0, 5, 1, 2, 3, 4), fate{ratio(2, 1), ratio(0, 1), api.OK}},
		{"pits in an order in which all can be told", spread(4, 5, 1, 0, 3, 2), fate{ratio(2, 1), ratio(0, 1), api.OK}},
		{"parcels of a pit", spread(4, 5, 2, 0, 3, 1, move(0, 1, 0, 1)), fails},
		{"parcels in an order in which all can be told", spread(4, 5, 2, 0, 3, 1, move(0, 2, 0, 127), move(0, 1, 0, 1)), fate{ratio(2, 1), ratio(0, 1), api.OK}},
		{"two steps lose what cannot be told", spread(4, 5, 1, 0, 3, 2, spill(0, 0, 1), spill(0, 2, 1)), fails},
		{"four steps in the order in which it can", spread(4, 5, 1, 0, 3, 2, spill(0, 0, 1), spill(0, 1, 127), spill(0, 2, 1), spill(0, 3, 124)),
			fate{ratio(126*131+130*127, 127*131), ratio(127+131, 127*131), api.OK}},
		{"what a step loses is added first", spread(4, 5, 1, 0, 3, 2, spill(0, 0, 1), move(0, 3, 2, 124), spill(0, 2, 125)),
			fate{ratio(2*16256*131-131-16256, 16256*131), ratio(131+16256, 16256*131), api.OK}},
	} {
		right(t, x.p)
		l, left, lost, e := pit.Fate(x.p, 1)
		if len(l) != 0 || (fate{left, lost, e}) != x.want {
			t.Error("P4.5:", x.name, l, left, lost, e)
		}
		_, leftOf, lostOf, ok := fateOf(right(t, x.p), 1)
		if ok != (e == api.OK) || ok && (lowest(leftOf) != left || lowest(lostOf) != lost) {
			t.Error("P4.5:", x.name, "by hand:", leftOf, lostOf, ok)
		}
	}
	p := spread(4, 5, 2, 0, 3, 1, take(11, 0, 0, 1))
	if l, left, lost, e := pit.Fate(p, 1); !slices.Equal(l, []api.Part{part(11, 1, 16256)}) || left != ratio(2*16256-1, 16256) || lost != ratio(0, 1) || e != api.OK {
		t.Error("P4.5:", l, left, lost, e)
	}
}

// TestRipeRange: a barrow of 2 with 1/16256 of pour 1, 126/16256 of pour 3, 127/128 of pour 4, 1/16375 of pour 2, 130/16375 of pour 5 and 124/125 of pour 6.
func TestRipeRange(t *testing.T) {
	first := func(x int) []api.Stir {
		return []api.Stir{pour(1, 0, 0, 1), pour(2, x, 1, 1), pour(3, x, 0, 126), turn(x, 0), move(x, 0, 2, 1), pour(4, x, 2, 127), turn(x, 2),
			pour(5, x, 1, 130), turn(x, 1), move(x, 1, 3, 1), pour(6, x, 3, 124), turn(x, 3), move(x, 2, 4, 1), move(x, 3, 4, 1), take(11, 9, 4, 2)}
	}
	apart := func(x int) []api.Stir {
		return []api.Stir{pour(1, 0, 0, 1), pour(3, x, 0, 126), turn(x, 0), move(x, 0, 2, 1), pour(4, x, 2, 127), turn(x, 2),
			pour(2, x, 1, 1), pour(5, x, 1, 130), turn(x, 1), move(x, 1, 3, 1), pour(6, x, 3, 124), turn(x, 3), move(x, 2, 4, 1), move(x, 3, 4, 1), take(11, 9, 4, 2)}
	}
	rooms := []int{300, 300, 300, 300, 300}
	for _, x := range []struct {
		name  string
		stirs []api.Stir
		days  int
		want  api.Ratio
		e     api.Errno
	}{
		{"all, in an order in which a sum on the way cannot be told", first(5), 0, api.Ratio{}, api.ErrRange},
		{"all but one", first(5), 5, ratio(1, 2*16256), api.OK},
		{"all, in an order in which it can be told", apart(5), 0, ratio(1, 1), api.OK},
		{"none", first(5), 10, ratio(0, 1), api.OK},
	} {
		p := pits(rooms, x.stirs...)
		right(t, p)
		if r, e := pit.Ripe(p, 11, x.days); r != x.want || e != x.e {
			t.Error("P4.4:", x.name, r, e)
		}
	}
	for _, x := range []struct {
		name        string
		stirs       []api.Stir
		grade       api.Span // of all pours
		least, most api.Ratio
		e           api.Errno
	}{
		{"the upper end cannot be told", first(5), span(0, 999), api.Ratio{}, api.Ratio{}, api.ErrRange},
		{"neither end can be told", first(5), span(1, 999), api.Ratio{}, api.Ratio{}, api.ErrRange},
		{"both can, since 1000 has divisors of the denominators", first(5), span(0, 1000), ratio(0, 1), ratio(1000, 1), api.OK},
		{"the lower end cannot be told", first(5), span(1, 1000), api.Ratio{}, api.Ratio{}, api.ErrRange},
		{"in an order in which they can be told", apart(5), span(1, 999), ratio(1, 1), ratio(999, 1), api.OK},
	} {
		var l []api.Grade
		for id := 1; id <= 6; id++ {
			l = append(l, api.Grade{Pour: id, Mille: x.grade})
		}
		if a, b, e := pit.Worth(pits(rooms, x.stirs...), 11, l); a != x.least || b != x.most || e != x.e {
			t.Error("P4.6:", x.name, a, b, e)
		}
	}
}

// TestDividedRange: a sum that can be told cannot be any more when it is divided by the barrow's amount.
func TestDividedRange(t *testing.T) {
	// A barrow of 2 with 1/16256 of pour 1, and 1/997 of pour 2: together 17253/16207232.
	stirs := []api.Stir{pour(1, 0, 0, 1), pour(2, 0, 1, 1), pour(3, 2, 0, 126), turn(2, 0), move(2, 0, 2, 1), pour(4, 2, 2, 127), turn(2, 2),
		pour(5, 2, 1, 996), turn(2, 1), move(2, 2, 3, 1), move(2, 1, 3, 1)}
	p := pits([]int{2000, 2000, 2000, 2000}, append(stirs, take(11, 3, 3, 2))...)
	right(t, p)
	if r, e := pit.Ripe(p, 11, 3); r != (api.Ratio{}) || e != api.ErrRange {
		t.Error("P4.4:", r, e)
	}
	if a, b, e := pit.Worth(p, 11, []api.Grade{{Pour: 3}, {Pour: 4}, {Pour: 5}, {Pour: 1, Mille: span(1, 1)}, {Pour: 2, Mille: span(1, 1)}}); a != (api.Ratio{}) || b != (api.Ratio{}) || e != api.ErrRange {
		t.Error("P4.6:", a, b, e)
	}
	if a, b, e := pit.Worth(p, 11, []api.Grade{{Pour: 3}, {Pour: 4}, {Pour: 5}, {Pour: 1, Mille: span(2, 2)}, {Pour: 2, Mille: span(2, 2)}}); a != ratio(17253, 16207232) || b != a || e != api.OK {
		t.Error("P4.6:", a, b, e)
	}
}

// TestWorthNum: the numerator of a sum is out of range, though its denominator is not.
func TestWorthNum(t *testing.T) {
	stirs := []api.Stir{pour(9, 0, 3, 500), pour(1, 0, 0, 1), pour(2, 0, 1, 1), pour(3, 0, 0, 126), turn(0, 0), move(0, 0, 2, 1), pour(4, 0, 2, 127), turn(0, 2),
		pour(5, 0, 1, 996), turn(0, 1), move(0, 2, 3, 1), move(0, 1, 3, 1)}
	rooms := []int{2000, 2000, 2000, 2000}
	p := pits(rooms, append(stirs, take(11, 3, 3, 502))...)
	right(t, p)
	if a, b, e := pit.Worth(p, 11, nil); a != (api.Ratio{}) || b != (api.Ratio{}) || e != api.ErrRange {
		t.Error("P4.6:", a, b, e)
	}
	if r, e := pit.Ripe(p, 11, 0); r != ratio(1, 1) || e != api.OK {
		t.Error("P4.4:", r, e)
	}
}

package recipe_test

import (
	"slices"
	"testing"

	"calx/api"
	"calx/recipe"
)

func row(l ...api.Ratio) []api.Ratio { return l }

func TestCorners(t *testing.T) {
	none, all := ratio(0, 1), ratio(1, 1)
	half := ratio(1, 2)
	for _, x := range []struct {
		stuffs, rules string
		want          [][]api.Ratio
	}{
		{"a", "", [][]api.Ratio{row(all)}}, {"a", "a from 1 to 1;", [][]api.Ratio{row(all)}}, {"a", "a from 0 to 59/60;", nil}, {"a", "2 a at most a;", nil}, {"a", "a at most 2 a;", [][]api.Ratio{row(all)}},
		{"a and b", "", [][]api.Ratio{row(none, all), row(all, none)}}, {"a and b", "a from 1/3 to 1/2;", [][]api.Ratio{row(ratio(1, 3), ratio(2, 3)), row(half, half)}}, {"a and b", "a from 1/2 to 1/2;", [][]api.Ratio{row(half, half)}},
		{"a and b", "a from 0 to 1/2; b from 0 to 1/2;", [][]api.Ratio{row(half, half)}}, {"a and b", "a from 0 to 1/2; b from 0 to 29/59;", nil}, {"a and b", "a at most b; b at most a;", [][]api.Ratio{row(half, half)}}, {"a and b", "a from 0 to 0;", [][]api.Ratio{row(none, all)}}, {"a and b", "a from 1 to 1;", [][]api.Ratio{row(all, none)}},
		{"a and b", "a + b at most 20 a;", [][]api.Ratio{row(ratio(1, 20), ratio(19, 20)), row(all, none)}}, {"a and b", "20 a + 20 b at most a;", nil},
		{"a and b and c", "", [][]api.Ratio{row(none, none, all), row(none, all, none), row(all, none, none)}}, {"a and b and c", "a from 1/3 to 1; b from 1/3 to 1; c from 1/3 to 1;", [][]api.Ratio{slices.Repeat(row(ratio(1, 3)), 3)}},
		{"a and b and c", "a at most b; b at most c; c at most a;", [][]api.Ratio{slices.Repeat(row(ratio(1, 3)), 3)}}, {"a and b and c", "a from 1/2 to 1/2;", [][]api.Ratio{row(half, none, half), row(half, half, none)}},
		// Where a rule only touches what the others leave, one corner is left.
		{"a and b and c", "a + b at most c; c from 0 to 1/2; a from 1/2 to 1;", [][]api.Ratio{row(half, none, half)}},
		{"a and b and c and d", "", [][]api.Ratio{row(none, none, none, all), row(none, none, all, none), row(none, all, none, none), row(all, none, none, none)}},
		{"a and b and c and d", "a from 1/2 to 1/2; b from 1/2 to 1;", [][]api.Ratio{row(half, half, none, none)}},
		{"a and b and c and d", "a + b at most c + d; c + d at most a + b; a at most b; c at most d;", [][]api.Ratio{row(none, half, none, half), row(none, half, ratio(1, 4), ratio(1, 4)), row(ratio(1, 4), ratio(1, 4), none, half), slices.Repeat(row(ratio(1, 4)), 4)}},
	} {
		r := ruled(t, x.stuffs, x.rules)
		if l, e := recipe.Corners(r, 7); !equalCorners(l, x.want) || e != api.OK {
			t.Error("P6.4:", x.rules, l, e)
		}
	}
}

func TestMake(t *testing.T) {
	for _, x := range []struct {
		stuffs, rules string
		want          api.Mortar
		e             api.Errno
	}{
		{"a", "", mortar(list(1), list(0)), api.OK}, {"a and b", "", mortar(list(0, 1), list(0, 0)), api.OK}, {"a and b", "a from 1/2 to 1/2;", mortar(list(1, 1), list(0, 0)), api.OK}, {"a and b", "a from 59/60 to 1;", mortar(list(59, 1), list(0, 0)), api.OK},
		{"a and b and c and d", "a from 1/60 to 1; b from 1/59 to 1; c from 1/58 to 1; d from 17/20 to 1;", mortar(list(1711, 1740, 1770, 97439), list(0, 0, 0, 0)), api.OK},
		{"a and b", "age b from 7 to 9; age b from 3 to 8; age b from 8 to 1000;", mortar(list(0, 1), list(0, 8)), api.OK}, {"a and b", "age b from 7 to 9; age a from 0 to 0;", mortar(list(0, 1), list(0, 7)), api.OK},
		{"a and b", "age a from 7 to 9; age a from 10 to 12;", api.Mortar{}, api.ErrClash}, {"a and b", "age a from 7 to 9; age b from 10 to 12;", mortar(list(0, 1), list(7, 10)), api.OK}, {"a and b", "age a from 1000 to 1000;", mortar(list(0, 1), list(1000, 0)), api.OK},
		{"a and b", "a from 1 to 1; b from 1 to 1;", api.Mortar{}, api.ErrClash}, {"a and b", "a from 1 to 1; 2 b at most a; a at most b;", api.Mortar{}, api.ErrClash},
		// Rules that do not hold ask for nothing.
		{"a and b", "age a from 7 to 9; age a from 10 to 12 except days 7 to 7;", mortar(list(0, 1), list(7, 0)), api.OK}, {"a and b", "a from 1 to 1 except days 5 to 8; b from 1 to 1; age b from 3 to 4 except days 0 to 20;", mortar(list(0, 1), list(0, 0)), api.OK},
	} {
		if m, e := recipe.Make(ruled(t, x.stuffs, x.rules), 7); !equalMortars(m, x.want) || e != x.e {
			t.Error("P6.4:", x.rules, m, e)
		}
	}
}

func TestEnds(t *testing.T) {
	none, all, half := ratio(0, 1), ratio(1, 1), ratio(1, 2)
	for _, x := range []struct {
		stuffs, rules, stuff string
		lo, hi               api.Ratio
		e                    api.Errno
	}{
		{"a", "", "a", all, all, api.OK}, {"a and b", "", "b", none, all, api.OK}, {"a and b", "a from 1/3 to 1/2;", "a", ratio(1, 3), half, api.OK}, {"a and b", "a from 1/3 to 1/2;", "b", half, ratio(2, 3), api.OK},
		{"a and b", "a from 1 to 1; b from 1 to 1;", "a", api.Ratio{}, api.Ratio{}, api.ErrClash}, {"a and b", "a from 1 to 1; b from 1 to 1 except days 7 to 7;", "b", none, none, api.OK},
		// Ages that cannot be are nothing to shares.
		{"a and b", "age a from 1 to 2; age a from 3 to 4; a at most b;", "a", none, half, api.OK},
		{"a and b and c", "a at most b; b at most c;", "c", ratio(1, 3), all, api.OK}, {"a and b and c", "a at most b; b at most c;", "b", none, half, api.OK}, {"a and b and c", "a at most b; b at most c;", "a", none, ratio(1, 3), api.OK},
	} {
		if lo, hi, e := recipe.Ends(ruled(t, x.stuffs, x.rules), 7, x.stuff); lo != x.lo || hi != x.hi || e != x.e {
			t.Error("P6.5:", x, lo, hi, e)
		}
	}
}

func TestAges(t *testing.T) {
	for _, x := range []struct {
		rules, stuff string
		want         api.Span
		e            api.Errno
	}{
		{"", "a", span(0, 1000), api.OK}, {"age a from 3 to 4;", "a", span(3, 4), api.OK}, {"age a from 3 to 4;", "b", span(0, 1000), api.OK}, {"age a from 0 to 0;", "a", span(0, 0), api.OK},
		{"age a from 3 to 9; age a from 5 to 11;", "a", span(5, 9), api.OK}, {"age a from 5 to 11; age a from 3 to 9;", "a", span(5, 9), api.OK}, {"age a from 3 to 9; age a from 9 to 11;", "a", span(9, 9), api.OK},
		{"age a from 3 to 9; age a from 10 to 11;", "a", api.Span{}, api.ErrClash}, {"age a from 3 to 9; age a from 10 to 11;", "b", span(0, 1000), api.OK}, {"age a from 3 to 9; age a from 10 to 11 except days 7 to 8;", "a", span(3, 9), api.OK}, {"age a from 3 to 9; age a from 10 to 11 except days 8 to 8;", "a", api.Span{}, api.ErrClash},
		// Shares that cannot be are nothing to ages.
		{"age a from 3 to 9; a from 1 to 1; b from 1 to 1;", "a", span(3, 9), api.OK},
	} {
		if s, e := recipe.Ages(ruled(t, "a and b", x.rules), 7, x.stuff); s != x.want || e != x.e {
			t.Error("P6.5:", x, s, e)
		}
	}
}

func TestExample(t *testing.T) {
	r := parsed(t, example)
	want := [][]api.Ratio{row(ratio(1, 4), ratio(13, 20), ratio(1, 10)), row(ratio(1, 4), ratio(3, 4), ratio(0, 1)), row(ratio(1, 3), ratio(17, 30), ratio(1, 10)), row(ratio(1, 3), ratio(2, 3), ratio(0, 1))}
	if l, e := recipe.Corners(r, 5); !equalCorners(l, want) || e != api.OK {
		t.Error("P6.4:", l, e)
	}
	if m, e := recipe.Make(r, 5); !equalMortars(m, mortar(list(5, 13, 2), list(14, 0, 0))) || e != api.OK {
		t.Error("P6.4:", m, e)
	}
	if lo, hi, e := recipe.Ends(r, 5, "sand"); lo != ratio(17, 30) || hi != ratio(3, 4) || e != api.OK {
		t.Error("P6.5:", lo, hi, e)
	}
	if lo, hi, e := recipe.Ends(r, 110, "ash"); lo != ratio(0, 1) || hi != ratio(3, 4) || e != api.OK {
		t.Error("P6.5:", lo, hi, e)
	}
	if s, e := recipe.Ages(r, 5, "lime"); s != span(14, 60) || e != api.OK {
		t.Error("P6.5:", s, e)
	}
	if l, e := recipe.Conflict(with(r, atMost(terms(term(1, "sand")), terms(term(1, "lime")))), 5); !slices.Equal(l, list(1, 2, 4)) || e != api.OK {
		t.Error("P6.6:", l, e)
	}
	if l, e := recipe.Idle(r, 5); len(l) != 0 || e != api.OK {
		t.Error("P6.6:", l, e)
	}
	if l, e := recipe.Idle(with(r, share("lime", ratio(0, 1), ratio(1, 3))), 5); !slices.Equal(l, list(1, 4)) || e != api.OK {
		t.Error("P6.6:", l, e)
	}
}

// TestRoomAlike compares corners, and what follows from them, with regions that are cut out of all shares by one bound after the other.
func TestRoomAlike(t *testing.T) {
	clashes, made := 0, 0
	for seed := range uint64(4000) {
		c := chanceOf(seed)
		r := c.any("some")
		day := c.from(0, 30)
		rules := holdingOn(r, day)
		x := regionOf(r, rules)
		l, e := recipe.Corners(r, day)
		if !equalCorners(l, x.told()) || e != api.OK {
			t.Fatal("P6.4:", r, day, l, e, x.told())
		}
		checkAges(t, r, day, x)
		checkEnds(t, r, day, l)
		m, e := recipe.Make(r, day)
		if x.isEmpty() {
			clashes++
			if e != api.ErrClash {
				t.Fatal("P6.4:", r, day, m, e)
			}
			continue
		}
		made++
		var least []int
		for _, s := range x.ages {
			least = append(least, s.Lo)
		}
		if !equalMortars(m, mortar(x.pounds(), least)) || e != api.OK {
			t.Fatal("P6.4:", r, day, m, e)
		}
		if e := recipe.CheckMortar(r, m); e != api.OK || len(brokenOn(r, m, day)) > 0 {
			t.Fatal("P6.4:", r, day, m, e)
		}
	}
	if min(clashes, made) < 500 {
		t.Error("too few of a sort:", clashes, made)
	}
}

// checkAges compares the ages of each material with those of a region.
func checkAges(t *testing.T, r api.Recipe, day int, x region) {
	t.Helper()
	for i, stuff := range r.Stuffs {
		s, e := recipe.Ages(r, day, stuff)
		if want := x.ages[i]; want.Lo > want.Hi && (e != api.ErrClash || s != api.Span{}) || want.Lo <= want.Hi && (e != api.OK || s != want) {
			t.Fatal("P6.5:", r, day, stuff, s, e)
		}
	}
}

// checkEnds compares the ends of each material with the corners.
func checkEnds(t *testing.T, r api.Recipe, day int, corners [][]api.Ratio) {
	t.Helper()
	for i, stuff := range r.Stuffs {
		lo, hi, e := recipe.Ends(r, day, stuff)
		if len(corners) == 0 {
			if e != api.ErrClash || lo != (api.Ratio{}) || hi != (api.Ratio{}) {
				t.Fatal("P6.5:", r, day, stuff, lo, hi, e)
			}
			continue
		}
		least, greatest := corners[0][i], corners[0][i]
		for _, l := range corners {
			if ratOf(l[i]).Cmp(ratOf(least)) < 0 {
				least = l[i]
			}
			if ratOf(l[i]).Cmp(ratOf(greatest)) > 0 {
				greatest = l[i]
			}
		}
		if e != api.OK || lo != least || hi != greatest {
			t.Fatal("P6.5:", r, day, stuff, lo, hi, e)
		}
	}
}

// grid calls do with each mortar of n materials, each of at most so many pounds.
func grid(n, most int, do func(api.Mortar)) {
	m := mortar(make([]int, n), make([]int, n))
	for {
		i := 0
		for i < n && m.Pounds[i] == most {
			m.Pounds[i] = 0
			i++
		}
		if i == n {
			return
		}
		m.Pounds[i]++
		do(m)
	}
}

// TestGrid counts out small mortars: those that keep the rules lie between the ends, and there are corners if there is one.
func TestGrid(t *testing.T) {
	kept := 0
	for seed := range uint64(300) {
		c := chanceOf(seed)
		r := c.recipe("some", c.from(1, 4), c.IntN(4), 4, 3)
		corners, _ := recipe.Corners(r, 25)
		for _, l := range corners {
			var p point
			for _, n := range l {
				p = append(p, ratOf(n))
			}
			for _, i := range holdingOn(r, 25) {
				if slices.ContainsFunc(boundsOf(r, r.Rules[i]), func(b bound) bool { return b(p).Sign() < 0 }) {
					t.Fatal("P6.11:", r, l)
				}
			}
		}
		var least, greatest []api.Ratio
		for _, stuff := range r.Stuffs {
			lo, hi, _ := recipe.Ends(r, 25, stuff)
			least, greatest = append(least, lo), append(greatest, hi)
		}
		grid(len(r.Stuffs), 5, func(m api.Mortar) {
			if slices.ContainsFunc(brokenOn(r, m, 25), func(i int) bool { return r.Rules[i].Kind != api.RuAge }) {
				return
			}
			kept++
			if len(corners) == 0 {
				t.Fatal("P6.11:", r, m)
			}
			for i, n := range pointOf(m) {
				if n.Cmp(ratOf(least[i])) < 0 || n.Cmp(ratOf(greatest[i])) > 0 {
					t.Fatal("P6.11:", r, m, least, greatest)
				}
			}
		})
	}
	if kept < 1000 {
		t.Error("too few that keep all:", kept)
	}
}

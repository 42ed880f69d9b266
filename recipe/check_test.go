package recipe_test

import (
	"math"
	"slices"
	"strings"
	"testing"

	"calx/api"
	"calx/recipe"
)

func TestCheck(t *testing.T) {
	b := []string{"b"}
	same := atMost(terms(term(1, "b")), terms(term(1, "b")))
	long := strings.Repeat("w", api.MaxName)
	for i, x := range []struct {
		r     api.Recipe
		right bool
	}{
		{api.Recipe{}, false}, {exampleRecipe(), true}, {named("a", b), true}, {named("b", b), true}, {named("a", b, []api.Rule{}...), true},
		{named("", b), false}, {named("A", b), false}, {named("a1", b), false}, {named("1", b), false}, {named("a b", b), false}, {named("a ", b), false}, {named(" a", b), false}, {named("aB", b), false}, {named("é", b), false}, {named("a\x00", b), false}, {named("/", b), false},
		{named("recipe", b), false}, {named("of", b), false}, {named("and", b), false}, {named("from", b), false}, {named("to", b), false}, {named("age", b), false}, {named("at", b), false}, {named("most", b), false}, {named("except", b), false}, {named("days", b), false}, {named("day", b), true}, {named("ages", b), true},
		{named(long, b), true}, {named(long+"w", b), false}, {named("z", []string{long}), true}, {named("z", []string{long + "w"}), false},
		{named("a", nil), false}, {named("a", []string{}), false}, {named("a", []string{""}), false}, {named("a", []string{"age"}), false}, {named("a", []string{"b", "C"}), false}, {named("a", []string{"b", "b"}), false}, {named("a", []string{"b", "c", "d", "b"}), false},
		{named("a", []string{"b", "c", "d", "e"}), true}, {named("a", []string{"b", "c", "d", "e", "f"}), false}, {named("a", make([]string, 1000)), false},
		{named("a", b, slices.Repeat([]api.Rule{same}, api.MaxRules)...), true}, {named("a", b, slices.Repeat([]api.Rule{same}, api.MaxRules+1)...), false}, {named("a", b, make([]api.Rule, 1000)...), false},
		{named("a", b, api.Rule{}), false}, {named("a", b, same, api.Rule{Stuff: "b"}), false}, {named("a", b, api.Rule{Kind: 4}), false}, {named("a", b, api.Rule{Kind: -1, Stuff: "b", Hi: ratio(1, 1)}), false},
	} {
		want := api.OK
		if !x.right {
			want = api.ErrForm
		}
		if e := recipe.Check(x.r); e != want {
			t.Error("P6.1:", i, x.r, e)
		}
		if _, e := recipe.Print([]api.Recipe{x.r}); e != want {
			t.Error("P6.1:", i, x.r, e)
		}
	}
}

// rulesToCheck is rules of a recipe of b and c, right and wrong ones.
func rulesToCheck() (right, wrong []api.Rule) {
	right = []api.Rule{
		share("b", ratio(0, 1), ratio(0, 1)), share("c", ratio(0, 1), ratio(1, 1)), share("c", ratio(1, 1), ratio(1, 1)), share("b", ratio(1, 60), ratio(59, 60)), share("b", ratio(1, 3), ratio(1, 2)), share("b", ratio(59, 60), ratio(59, 60)),
		{Kind: api.RuShare, Stuff: "b", Lo: ratio(0, 1), Hi: ratio(1, 1), Less: []api.Term{}, More: []api.Term{}, Except: []api.Span{}},
		atMost(terms(term(1, "b")), terms(term(20, "b"))), atMost(terms(term(20, "b"), term(1, "c")), terms(term(1, "c"), term(2, "b"))),
		age("b", 0, 0), age("c", 0, api.MaxRipe), age("c", api.MaxRipe, api.MaxRipe), age("b", 7, 7),
		{Kind: api.RuAge, Stuff: "b", Less: []api.Term{}, More: []api.Term{}, Except: []api.Span{}},
	}
	wrong = []api.Rule{
		share("", ratio(0, 1), ratio(1, 1)), share("d", ratio(0, 1), ratio(1, 1)), share("a", ratio(0, 1), ratio(1, 1)),
		share("b", ratio(0, 0), ratio(1, 1)), share("b", ratio(0, 1), ratio(0, 0)), share("b", ratio(0, 2), ratio(1, 1)), share("b", ratio(2, 4), ratio(1, 1)), share("b", ratio(0, 1), ratio(3, 9)), share("b", ratio(0, 1), ratio(2, 2)), share("b", ratio(0, 1), ratio(0, 60)),
		share("b", ratio(1, 61), ratio(1, 1)), share("b", ratio(0, 1), ratio(60, 61)), share("b", ratio(-1, 2), ratio(1, 1)), share("b", ratio(0, 1), ratio(3, 2)), share("b", ratio(2, 1), ratio(3, 1)), share("b", ratio(0, 1), ratio(2, 1)), share("b", ratio(0, -1), ratio(1, 1)), share("b", ratio(-1, -2), ratio(1, 1)), share("b", ratio(0, 1), ratio(-1, -1)),
		share("b", ratio(1, 2), ratio(1, 3)), share("b", ratio(1, 1), ratio(0, 1)), share("b", ratio(59, 60), ratio(58, 59)), share("b", ratio(math.MinInt, 1), ratio(math.MaxInt, 1)), share("b", ratio(1, math.MaxInt), ratio(1, 1)), share("b", ratio(1, math.MinInt), ratio(1, 1)), share("b", ratio(1, 1), ratio(math.MaxInt, math.MaxInt)),
		{Kind: api.RuShare, Stuff: "b", Lo: ratio(0, 1), Hi: ratio(1, 1), Less: terms(term(1, "b"))}, {Kind: api.RuShare, Stuff: "b", Lo: ratio(0, 1), Hi: ratio(1, 1), More: terms(term(1, "b"))},
		{Kind: api.RuShare, Stuff: "b", Lo: ratio(0, 1), Hi: ratio(1, 1), From: 1}, {Kind: api.RuShare, Stuff: "b", Lo: ratio(0, 1), Hi: ratio(1, 1), To: 1}, {Kind: api.RuShare, Stuff: "b"},
		{Kind: api.RuCompare}, atMost(nil, terms(term(1, "b"))), atMost(terms(term(1, "b")), nil), atMost([]api.Term{}, terms(term(1, "b"))),
		atMost(terms(term(0, "b")), terms(term(1, "b"))), atMost(terms(term(1, "b")), terms(term(-1, "b"))), atMost(terms(term(21, "b")), terms(term(1, "b"))), atMost(terms(term(1, "b")), terms(term(1, "c"), term(21, "b"))), atMost(terms(term(math.MaxInt, "b")), terms(term(1, "b"))), atMost(terms(term(1, "b")), terms(term(math.MinInt, "b"))),
		atMost(terms(term(1, "")), terms(term(1, "b"))), atMost(terms(term(1, "b")), terms(term(1, "a"))), atMost(terms(term(1, "b"), term(2, "b")), terms(term(1, "b"))), atMost(terms(term(1, "b")), terms(term(1, "c"), term(1, "b"), term(1, "c"))),
		atMost(slices.Repeat(terms(term(1, "b")), 5), terms(term(1, "b"))), atMost(terms(term(1, "b")), make([]api.Term, 1000)),
		{Kind: api.RuCompare, Stuff: "b", Less: terms(term(1, "b")), More: terms(term(1, "b"))}, {Kind: api.RuCompare, Lo: ratio(0, 1), Less: terms(term(1, "b")), More: terms(term(1, "b"))}, {Kind: api.RuCompare, Hi: ratio(0, 1), Less: terms(term(1, "b")), More: terms(term(1, "b"))},
		{Kind: api.RuCompare, From: 1, Less: terms(term(1, "b")), More: terms(term(1, "b"))}, {Kind: api.RuCompare, To: 1, Less: terms(term(1, "b")), More: terms(term(1, "b"))},
		age("", 0, 1), age("d", 0, 1), age("b", -1, 1), age("b", 2, 1), age("b", 0, api.MaxRipe+1), age("b", -2, -1), age("b", math.MinInt, math.MaxInt), age("b", math.MaxInt, math.MinInt), age("b", api.MaxRipe+1, api.MaxRipe+1),
		{Kind: api.RuAge, Stuff: "b", Lo: ratio(0, 1)}, {Kind: api.RuAge, Stuff: "b", Hi: ratio(0, 1)}, {Kind: api.RuAge, Stuff: "b", Hi: ratio(1, 0)}, {Kind: api.RuAge, Stuff: "b", Less: terms(term(1, "b"))}, {Kind: api.RuAge, Stuff: "b", More: terms(term(1, "b"))},
	}
	return right, wrong
}

func TestCheckRule(t *testing.T) {
	right, wrong := rulesToCheck()
	stuffs := []string{"b", "c"}
	for _, x := range right {
		if e := recipe.Check(named("a", stuffs, right[0], x)); e != api.OK {
			t.Error("P6.1:", x, e)
		}
	}
	for _, x := range wrong {
		if e := recipe.Check(named("a", stuffs, right[0], x)); e != api.ErrForm {
			t.Error("P6.1:", x, e)
		}
	}
	four := []string{"b", "c", "d", "e"}
	sum := terms(term(1, "b"), term(2, "c"), term(3, "d"), term(4, "e"))
	if e := recipe.Check(named("a", four, atMost(sum, sum))); e != api.OK {
		t.Error("P6.1:", e)
	}
}

func TestCheckExcept(t *testing.T) {
	for _, x := range []struct {
		l     []api.Span
		right bool
	}{
		{nil, true}, {[]api.Span{}, true}, {[]api.Span{span(0, 0)}, true}, {[]api.Span{span(0, api.MaxDay)}, true}, {[]api.Span{span(api.MaxDay, api.MaxDay)}, true},
		{[]api.Span{span(-1, 0)}, false}, {[]api.Span{span(5, 4)}, false}, {[]api.Span{span(0, api.MaxDay+1)}, false}, {[]api.Span{span(math.MinInt, math.MaxInt)}, false}, {[]api.Span{span(math.MaxInt, math.MinInt)}, false},
		{[]api.Span{span(1, 2), span(4, 5)}, true}, {[]api.Span{span(1, 2), span(3, 5)}, false}, {[]api.Span{span(1, 2), span(2, 5)}, false}, {[]api.Span{span(4, 5), span(1, 2)}, false}, {[]api.Span{span(1, 2), span(1, 2)}, false}, {[]api.Span{span(1, 2), span(4, 3)}, false}, {[]api.Span{span(1, 9), span(4, 5)}, false},
		{[]api.Span{span(1, 1), span(3, 3), span(5, 5), span(7, 7)}, true}, {[]api.Span{span(1, 1), span(3, 3), span(5, 5), span(7, 7), span(9, 9)}, false}, {[]api.Span{span(1, 1), span(3, 3), span(5, 5), span(6, 7)}, false},
	} {
		for _, rule := range []api.Rule{share("b", ratio(0, 1), ratio(1, 1), x.l...), atMost(terms(term(1, "b")), terms(term(1, "b")), x.l...), age("b", 0, 1, x.l...)} {
			if e := recipe.Check(named("a", []string{"b"}, rule)); x.right != (e == api.OK) || !x.right != (e == api.ErrForm) {
				t.Error("P6.1:", rule, e)
			}
		}
	}
}

func TestCheckMortar(t *testing.T) {
	r := named("a", []string{"b", "c"})
	for _, x := range []struct {
		m     api.Mortar
		right bool
	}{
		{mortar(list(1, 0), list(0, 0)), true}, {mortar(list(0, 1), list(api.MaxRipe, 0)), true}, {mortar(list(api.MaxPounds, api.MaxPounds), list(0, api.MaxRipe)), true},
		{api.Mortar{}, false}, {mortar(list(0, 0), list(0, 0)), false}, {mortar(list(1), list(0)), false}, {mortar(list(1, 1), list(0)), false}, {mortar(list(1), list(0, 0)), false}, {mortar(list(1, 1, 1), list(0, 0, 0)), false}, {mortar(list(1, 1, 0), list(0, 0)), false}, {mortar(list(1, 1), list(0, 0, 0)), false}, {mortar(list(1, 1), nil), false}, {mortar(nil, list(1, 1)), false},
		{mortar(list(-1, 1), list(0, 0)), false}, {mortar(list(1, -1), list(0, 0)), false}, {mortar(list(1, api.MaxPounds+1), list(0, 0)), false}, {mortar(list(math.MaxInt, math.MinInt), list(0, 0)), false},
		{mortar(list(1, 1), list(-1, 0)), false}, {mortar(list(1, 1), list(0, api.MaxRipe+1)), false}, {mortar(list(0, 1), list(api.MaxRipe+1, 0)), false}, {mortar(list(1, 1), list(math.MinInt, math.MaxInt)), false},
	} {
		want := api.OK
		if !x.right {
			want = api.ErrArg
		}
		if e := recipe.CheckMortar(r, x.m); e != want {
			t.Error("P6.2:", x.m, e)
		}
		if e := recipe.CheckMortar(named("A", r.Stuffs), x.m); e != api.ErrForm {
			t.Error("P6.2:", x.m, e)
		}
	}
}

// answers calls each function of a recipe (or of two), with mortars, a day and a material, and returns the errors. It checks that all else is zero together with one.
func answers(t *testing.T, a, b api.Recipe, m, n api.Mortar, day int, stuff string) map[string]api.Errno {
	t.Helper()
	errs := map[string]api.Errno{}
	note := func(name string, e api.Errno, isZero bool) {
		errs[name] = e
		if e != api.OK && !isZero {
			t.Error("R4:", name, e)
		}
	}
	errs["Check"] = recipe.Check(a)
	errs["CheckMortar"] = recipe.CheckMortar(a, m)
	errs["CheckConflict"] = recipe.CheckConflict(a, day, list(0))
	l, e := recipe.Holding(a, day)
	note("Holding", e, len(l) == 0)
	l, e = recipe.Broken(a, m, day)
	note("Broken", e, len(l) == 0)
	shares, e := recipe.Shares(a, m)
	note("Shares", e, len(shares) == 0)
	blend, e := recipe.Blend(a, m, n)
	note("Blend", e, isNoMortar(blend))
	made, e := recipe.Make(a, day)
	note("Make", e, isNoMortar(made))
	corners, e := recipe.Corners(a, day)
	note("Corners", e, len(corners) == 0)
	lo, hi, e := recipe.Ends(a, day, stuff)
	note("Ends", e, lo == api.Ratio{} && hi == api.Ratio{})
	ages, e := recipe.Ages(a, day, stuff)
	note("Ages", e, ages == api.Span{})
	l, e = recipe.Conflict(a, day)
	note("Conflict", e, len(l) == 0)
	l, e = recipe.Idle(a, day)
	note("Idle", e, len(l) == 0)
	m, isWithin, e := recipe.Within(a, b, day)
	note("Within", e, isNoMortar(m) && !isWithin)
	l, e = recipe.Changes(a)
	note("Changes", e, len(l) == 0)
	return errs
}

// TestErrors: which error each function tells if several apply.
func TestErrors(t *testing.T) {
	ofDay := "Holding Broken Make Corners Ends Ages Conflict CheckConflict Idle Within"
	ofMortar := "CheckMortar Broken Shares Blend"
	good, bad := exampleRecipe(), named("a", nil)
	m, wrong := mortar(list(30, 60, 10), list(20, 0, 0)), mortar(list(1, 1), list(0, 0))
	for i, x := range []struct {
		a, b  api.Recipe
		m, n  api.Mortar
		day   int
		stuff string
		errs  map[api.Errno]string // the functions that tell an error
	}{
		{good, good, m, m, 5, "lime", map[api.Errno]string{api.ErrNone: "Conflict", api.ErrProof: "CheckConflict"}},
		{bad, good, wrong, m, -1, "x", map[api.Errno]string{api.ErrForm: ofDay + " " + ofMortar + " Check Changes"}},
		{good, bad, m, m, 5, "sand", map[api.Errno]string{api.ErrNone: "Conflict", api.ErrProof: "CheckConflict", api.ErrForm: "Within"}},
		{good, bad, m, wrong, -1, "x", map[api.Errno]string{api.ErrArg: wordsBut(ofDay, "Within") + " Blend", api.ErrForm: "Within"}},
		{good, good, m, m, -1, "x", map[api.Errno]string{api.ErrArg: ofDay}},
		{good, good, m, m, api.MaxDay + 1, "lime", map[api.Errno]string{api.ErrArg: ofDay}},
		{good, good, m, m, math.MinInt, "lime", map[api.Errno]string{api.ErrArg: ofDay}},
		{good, good, m, m, 0, "lime", map[api.Errno]string{api.ErrNone: "Conflict", api.ErrProof: "CheckConflict"}},
		{good, good, m, m, api.MaxDay, "lime", map[api.Errno]string{api.ErrNone: "Conflict", api.ErrProof: "CheckConflict"}},
		{good, good, wrong, m, 5, "lime", map[api.Errno]string{api.ErrNone: "Conflict", api.ErrProof: "CheckConflict", api.ErrArg: ofMortar}},
		{good, good, m, wrong, 5, "lime", map[api.Errno]string{api.ErrNone: "Conflict", api.ErrProof: "CheckConflict", api.ErrArg: "Blend"}},
		{good, good, m, m, 5, "fine", map[api.Errno]string{api.ErrNone: "Conflict Ends Ages", api.ErrProof: "CheckConflict"}},
		{good, good, m, m, 5, "", map[api.Errno]string{api.ErrNone: "Conflict Ends Ages", api.ErrProof: "CheckConflict"}},
		{good, named("b", []string{"lime", "ash", "sand"}), m, m, 5, "lime", map[api.Errno]string{api.ErrNone: "Conflict", api.ErrProof: "CheckConflict", api.ErrArg: "Within"}},
		{good, named("b", []string{"lime", "sand"}), m, m, 5, "lime", map[api.Errno]string{api.ErrNone: "Conflict", api.ErrProof: "CheckConflict", api.ErrArg: "Within"}},
		{named("b", []string{"lime", "sand", "ash"}), good, m, m, 5, "lime", map[api.Errno]string{api.ErrNone: "Conflict", api.ErrArg: "CheckConflict"}},
	} {
		for name, e := range answers(t, x.a, x.b, x.m, x.n, x.day, x.stuff) {
			want := api.OK
			for e, names := range x.errs {
				if slices.Contains(strings.Fields(names), name) {
					want = e
				}
			}
			if e != want {
				t.Error("R3:", i, name, e, want)
			}
		}
	}
}

// wordsBut returns words without one.
func wordsBut(words, word string) string {
	return strings.Join(slices.DeleteFunc(strings.Fields(words), func(s string) bool { return s == word }), " ")
}

package recipe_test

import (
	"slices"
	"strings"
	"testing"

	"calx/api"
	"calx/recipe"
)

// exampleRecipe is the recipe of the chapter's example.
func exampleRecipe() api.Recipe {
	return named("fine", []string{"lime", "sand", "ash"},
		share("lime", ratio(1, 4), ratio(1, 2)),
		atMost(terms(term(2, "lime")), terms(term(1, "sand"), term(1, "ash"))),
		share("ash", ratio(0, 1), ratio(1, 10), span(100, 120)),
		age("lime", 14, 60))
}

func TestParse(t *testing.T) {
	long := strings.Repeat("w", api.MaxName)
	b := []string{"b"}
	same := atMost(terms(term(1, "b")), terms(term(1, "b")))
	for _, x := range []struct {
		source string
		want   []api.Recipe
	}{
		{"", nil},
		{" \t\n \n", nil},
		{example, []api.Recipe{exampleRecipe()}},
		{"recipe a of b{}", []api.Recipe{named("a", b)}},
		{"\n\trecipe\na\tof b { \n } ", []api.Recipe{named("a", b)}},
		{"recipe a of a and b{}recipe b of b{}", []api.Recipe{named("a", []string{"a", "b"}), named("b", b)}},
		{"recipe " + long + " of " + long + "{}", []api.Recipe{named(long, []string{long})}},
		{"recipe a of b and c and d and e{}", []api.Recipe{named("a", []string{"b", "c", "d", "e"})}},
		{"recipe a of b{b from 0 to 1;}", []api.Recipe{named("a", b, share("b", ratio(0, 1), ratio(1, 1)))}},
		{"recipe a of b{b from 0/1 to 1/1;}", []api.Recipe{named("a", b, share("b", ratio(0, 1), ratio(1, 1)))}},
		{"recipe a of b{b from 59 / 60 to 1\n/\t1;}", []api.Recipe{named("a", b, share("b", ratio(59, 60), ratio(1, 1)))}},
		{"recipe a of b{b at most b;}", []api.Recipe{named("a", b, same)}},
		{"recipe a of b{1 b at most 20 b;}", []api.Recipe{named("a", b, atMost(terms(term(1, "b")), terms(term(20, "b"))))}},
		{"recipe a of b and c{b+2 c at most 3 c+4 b;c + b at most c;}", []api.Recipe{named("a", []string{"b", "c"},
			atMost(terms(term(1, "b"), term(2, "c")), terms(term(3, "c"), term(4, "b"))),
			atMost(terms(term(1, "c"), term(1, "b")), terms(term(1, "c"))))}},
		{"recipe a of b{age b from 0 to 1000;}", []api.Recipe{named("a", b, age("b", 0, 1000))}},
		{"recipe a of b{age b from 7 to 7 except days 0 to 0 except days 2 to 682;b at most b except days 5 to 6;b from 1 to 1 except days 3 to 4;}",
			[]api.Recipe{named("a", b, age("b", 7, 7, span(0, 0), span(2, 682)), atMost(same.Less, same.More, span(5, 6)), share("b", ratio(1, 1), ratio(1, 1), span(3, 4)))}},
		{"recipe a of ages and att{ages at most att;}", []api.Recipe{named("a", []string{"ages", "att"}, atMost(terms(term(1, "ages")), terms(term(1, "att"))))}},
		{"recipe a of b{" + strings.Repeat("b at most b;", api.MaxRules) + "}", []api.Recipe{named("a", b, slices.Repeat([]api.Rule{same}, api.MaxRules)...)}},
	} {
		if l, e, at := recipe.Parse(x.source); !slices.EqualFunc(l, x.want, equalRecipes) || e != api.OK || at != 0 {
			t.Errorf("P6.1: %q: %v %v %v", x.source, l, e, at)
		}
	}
}

// checkFault checks the error of a source in which the mark ~ stands ahead of the byte at which it is told.
func checkFault(t *testing.T, marked string, want api.Errno) {
	t.Helper()
	at := strings.Index(marked, "~")
	source := strings.Replace(marked, "~", "", 1)
	if l, e, n := recipe.Parse(source); len(l) != 0 || e != want || n != at {
		t.Errorf("P6.1: %q: %v %v %v", marked, l, e, n)
	}
}

func TestParseTokens(t *testing.T) {
	long := strings.Repeat("w", api.MaxName+1)
	for _, source := range []string{
		"~R", "~\x00", "~\xff", "~~", "~é", "recipe a of ~B{}", "recipe a of b~B{}", "recipe a of b~\r{}", "recipe a of b~é{}", "recipe a of b~-c{}", "recipe a of b~_c{}", "recipe a of b{}~,", "recipe a of b{}~\v",
		"recipe a of b{~(", "recipe a of b{~*", "recipe a of b{~.", "recipe a of b{~:", "recipe a of b{~@", "recipe a of b{~`", "recipe a of b{~|", "recipe a of b{~[",
		"~" + long, "recipe a of ~" + long + "{}", "~" + long + "1", "~" + long + "A", "recipe ~" + strings.Repeat(long, 9) + " of b{}",
		"recipe a of b~1{}", "recipe~7 a of b{}", "recipe a~0 of b{}", "recipe a of b{b from~1",
		"recipe a of b{b from 0~0 to 1;}", "recipe a of b{b from 0~7 to 1;}", "recipe a of b{b from 0~b to 1;}", "recipe a of b{b from 1~b to 1;}", "recipe a of b{12~b at most b;}", "recipe a of b{b from 1~B to 1;}", "recipe a of b{b from 0~A", "100000~a",
		"recipe a of b{b from ~100001 to 1;}", "recipe a of b{b from ~1000000 to 1;}", "recipe a of b{b from ~900000 to 1;}", "recipe a of b{b from ~18446744073709551617 to 1;}", "~99999999999999999999999999999x",
		"recipe a of b{b from ~-1 to 1;}", "recipe a of b{b from ~.5 to 1;}", "recipe a of b{b from 1~,5 to 1;}",
		// These come ahead of the errors of the grammar, and of all others.
		"of of of recipe ~!", "recipe a of a and a{}recipe a of b{}~?", "} 1 recipe 0~0 A 0a",
	} {
		checkFault(t, source, api.ErrForm)
	}
}

func TestParseGrammar(t *testing.T) {
	for _, source := range []string{
		"~of", "~a", "~age", "~1", "~;", "~}", "~{", "recipe~", "recipe ~of", "recipe ~recipe of b{}", "recipe ~1 of b{}", "recipe a~", "recipe a ~a of b{}", "recipe a ~{}", "recipe a of~",
		"recipe a of ~{}", "recipe a of ~days{}", "recipe a of b~", "recipe a of b \n~", "recipe a of b ~c{}", "recipe a of b and ~and c{}", "recipe a of b and~", "recipe a of b and c~", "recipe a of b ~}", "recipe a of b{~", "recipe a of b{  \n ~",
		"recipe a of b{}~;", "recipe a of b{} ~}", "recipe a of b{}\n~of", "recipe a of b{} ~a", "recipe a of b{}recipe~",
		"recipe a of b{~;}", "recipe a of b{~{}}", "recipe a of b{~from 1 to 1;}", "recipe a of b{~+ b at most b;}", "recipe a of b{~/}", "recipe a of b{~recipe a of b{}", "recipe a of b{~except days 1 to 2;}",
		"recipe a of b{b~", "recipe a of b{b ~;}", "recipe a of b{b ~to}", "recipe a of b{b ~b}", "recipe a of b{b ~most}", "recipe a of b{b ~1}", "recipe a of b{b ~except days 1 to 2;}",
		"recipe a of b{b from~", "recipe a of b{b from ~b to 1;}", "recipe a of b{b from ~to 1;}", "recipe a of b{b from ~/1 to 1;}", "recipe a of b{b from 1 ~;}", "recipe a of b{b from 1 ~1 to 1;}", "recipe a of b{b from 1/~to 1;}", "recipe a of b{b from 1/2~/3 to 1;}",
		"recipe a of b{b from 1 to ~;}", "recipe a of b{b from 1 to 1 ~}", "recipe a of b{b from 1 to 1~", "recipe a of b{b from 1 to 1/~;}", "recipe a of b{b from 1 to 1 ~to 1;}", "recipe a of b{b from 1 to 1 ~at most b;}", "recipe a of b{b from 1 to 1 ~+ b;}",
		"recipe a of b{1~", "recipe a of b{1 ~1 b at most b;}", "recipe a of b{1 ~of}", "recipe a of b{1 ~/2 b at most b;}", "recipe a of b{1 b ~from 1 to 1;}", "recipe a of b{b + b ~from 1 to 1;}", "recipe a of b{b + ~;}", "recipe a of b{b +~", "recipe a of b{1 ~age b from 1 to 1;}",
		"recipe a of b{b + ~+ b at most b;}", "recipe a of b{b at ~b;}", "recipe a of b{b at~", "recipe a of b{b at most~", "recipe a of b{b at most ~;}", "recipe a of b{b at most b ~at most b;}", "recipe a of b{b at most b + ~;}", "recipe a of b{b at most b ~b;}", "recipe a of b{b at most 1 ~;}", "recipe a of b{b at most b ~}", "recipe a of b{b at most b ~to 1;}",
		"recipe a of b{age ~from 1 to 1;}", "recipe a of b{age ~1 from 1 to 1;}", "recipe a of b{age ~age b from 1 to 1;}", "recipe a of b{age b ~at most b;}", "recipe a of b{age b ~1 to 1;}", "recipe a of b{age b from 1 ~/2 to 1;}", "recipe a of b{age b from ~b to 1;}", "recipe a of b{age b from 1 to ~b;}", "recipe a of b{age b from 1 to 1 ~/2;}", "recipe a of b{age b from 1 to 1 ~+ b;}",
		"recipe a of b{age b from 1 to 1 except ~1 to 2;}", "recipe a of b{age b from 1 to 1 except days ~to 2;}", "recipe a of b{age b from 1 to 1 except days 1 ~2;}", "recipe a of b{age b from 1 to 1 except days 1 to ~;}", "recipe a of b{age b from 1 to 1 except days ~from 1 to 2;}",
		"recipe a of b{age b from 1 to 1 except days 1 to 2 ~days 4 to 5;}", "recipe a of b{age b from 1 to 1 except days 1 to 2 ~from 1 to 2;}", "recipe a of b{age b from 1 to 1;~except days 1 to 2;}", "recipe a of b{age b from 1 to 1 except days 1~/2 to 2;}", "recipe a of b{age b from 1 to 1 except days 1 to 2~/3;}", "recipe a of b{age b from 1 to 1 except days 1 to 2 ~and 4 to 5;}",
		// These come ahead of recipes that are not formed, or have a name twice.
		"recipe a of a and a{}recipe a of b{} ~a", "recipe a of b{b from 2/4 to 7;}recipe~", "recipe a of b{}recipe a of b{}~{", strings.Repeat("recipe a of b{}", api.MaxRecipes+1) + "~and",
	} {
		checkFault(t, source, api.ErrForm)
	}
}

func TestParseForms(t *testing.T) {
	for _, source := range []string{
		"~recipe a of b and b{}", " \n~recipe a of b and c and d and e and f{}", "recipe a of b{}~recipe c of d{d from 2/4 to 1;}", "~recipe c of d{d from 1/0 to 1;}", "~recipe c of d{d from 0/5 to 1;}", "~recipe c of d{e from 0 to 1;}",
		"~recipe a of b{0 b at most b;}", "~recipe a of b{b at most 0 b;}", "~recipe a of b{21 b at most b;}", "~recipe a of b{b+b at most b;}", "~recipe a of b{b at most 2 b+b;}", "~recipe a of b{age b from 2 to 1;}", "~recipe a of b{age b from 0 to 1001;}", "~recipe a of b{age a from 0 to 1;}",
		"~recipe a of b{b from 1 to 100000;}", "~recipe a of b{b from 1/100000 to 1;}", "~recipe a of b{b from 1/61 to 1;}", "~recipe a of b{b from 1/2 to 1/3;}", "~recipe a of b{b at most b except days 1 to 2 except days 3 to 4;}", "~recipe a of b{b at most b except days 5 to 6 except days 1 to 2;}", "~recipe a of b{b at most b except days 0 to 683;}",
		"~recipe a of b{" + strings.Repeat("b at most b;", api.MaxRules+1) + "}",
		// The first one is told, and ahead of one that has a name twice.
		"recipe a of b{}~recipe b of b{b at most c;}recipe e of e and e{}", "recipe a of b{}recipe a of b{}~recipe c of c and c{}", "recipe a of b{}~recipe a of c and c{}",
	} {
		checkFault(t, source, api.ErrForm)
	}
	for _, source := range []string{
		"recipe a of b{}~recipe a of b{}", "recipe a of b{} recipe c of b{}\n ~recipe a of d{}recipe c of d{}recipe a of d{}", "recipe a of b{} recipe c of b{}\t~recipe c of b{}recipe a of d{}",
	} {
		checkFault(t, source, api.ErrTwice)
	}
}

// many returns a source of n recipes, from the name "a" on.
func many(n int) string {
	text := ""
	for i := range n {
		text += "recipe " + string(rune('a'+i)) + " of b{}\n"
	}
	return text
}

func TestParseLimits(t *testing.T) {
	if l, e, at := recipe.Parse(many(api.MaxRecipes)); len(l) != api.MaxRecipes || e != api.OK || at != 0 {
		t.Error("P6.1:", l, e, at)
	}
	more := many(api.MaxRecipes) + "~recipe z of b{}"
	for _, source := range []string{more, more + many(3), strings.Replace(more, "b{}", "b and b{}", 1), strings.Replace(more, "recipe b", "recipe a", 1), strings.Replace(more, "z of b", "a of b and b", 1)} {
		checkFault(t, source, api.ErrLimit)
	}
	for _, end := range []string{"", "recipe a of b{}", "}", "!", "recipe a of b and b{}", many(api.MaxRecipes + 1)} {
		source := strings.Repeat(" ", api.MaxRecipeIn-len(end)) + end
		if _, e, at := recipe.Parse(source); e == api.ErrLimit && at == 0 || e == api.OK != (end == "" || end == "recipe a of b{}") {
			t.Error("P6.1:", end, e, at)
		}
		for _, longer := range []string{" " + source, source + " ", source + "!", strings.Repeat(source, 9)} {
			if l, e, at := recipe.Parse(longer); len(l) != 0 || e != api.ErrLimit || at != 0 {
				t.Error("P6.1:", end, l, e, at)
			}
		}
	}
}

func TestPrint(t *testing.T) {
	text := "recipe a of b and c {\n b from 0 to 1;\n c from 1/60 to 59/60 except days 0 to 0 except days 2 to 682;\n" +
		" 2 b at most c;\n b + 20 c at most 3 c + b except days 7 to 9;\n age c from 0 to 1000;\n age b from 5 to 5 except days 1 to 2;\n}\n"
	r := named("a", []string{"b", "c"},
		share("b", ratio(0, 1), ratio(1, 1)), share("c", ratio(1, 60), ratio(59, 60), span(0, 0), span(2, 682)),
		atMost(terms(term(2, "b")), terms(term(1, "c"))), atMost(terms(term(1, "b"), term(20, "c")), terms(term(3, "c"), term(1, "b")), span(7, 9)),
		age("c", 0, 1000), age("b", 5, 5, span(1, 2)))
	empty := named("d", []string{"d"})
	for _, x := range []struct {
		l    []api.Recipe
		want string
	}{
		{nil, ""}, {[]api.Recipe{}, ""}, {[]api.Recipe{exampleRecipe()}, example}, {[]api.Recipe{r}, text}, {[]api.Recipe{empty}, "recipe d of d {\n}\n"},
		{[]api.Recipe{empty, r, exampleRecipe()}, "recipe d of d {\n}\n" + text + example},
	} {
		if s, e := recipe.Print(x.l); s != x.want || e != api.OK {
			t.Errorf("P6.1: %q %v", s, e)
		}
		if l, e, at := recipe.Parse(x.want); !slices.EqualFunc(l, x.l, equalRecipes) || e != api.OK || at != 0 {
			t.Error("P6.10:", l, e, at)
		}
	}
}

func TestPrintErrors(t *testing.T) {
	good, twice, wrong := named("a", []string{"b"}), named("a", []string{"c"}), named("c", nil)
	full, _, _ := recipe.Parse(many(api.MaxRecipes))
	for i, x := range []struct {
		l    []api.Recipe
		want api.Errno
	}{
		{full, api.OK}, {slices.Concat(full, []api.Recipe{named("z", []string{"b"})}), api.ErrLimit}, {make([]api.Recipe, api.MaxRecipes+1), api.ErrLimit}, {make([]api.Recipe, api.MaxRecipes), api.ErrForm},
		{[]api.Recipe{good, wrong}, api.ErrForm}, {[]api.Recipe{good, twice}, api.ErrTwice}, {[]api.Recipe{good, named("c", []string{"b"}), twice}, api.ErrTwice},
		{[]api.Recipe{good, twice, wrong}, api.ErrTwice}, {[]api.Recipe{good, wrong, twice}, api.ErrForm}, {[]api.Recipe{good, named("a", nil)}, api.ErrForm},
	} {
		if s, e := recipe.Print(x.l); e != x.want || e != api.OK && s != "" {
			t.Error("P6.1:", i, s, e)
		}
	}
}

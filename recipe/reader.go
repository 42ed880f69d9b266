package recipe

import (
	"slices"

	"calx/api"
)

// fault is an error of a source, and its index.
type fault struct {
	err api.Errno
	at  int
}

// demand panics with a fault unless all is right, so that a source can be read without an error at each step.
func demand(isRight bool, e api.Errno, at int) {
	if !isRight {
		panic(fault{e, at})
	}
}

// Parse returns the recipes of a source, or its first error and the index of that.
func Parse(source string) (l []api.Recipe, e api.Errno, at int) {
	defer func() {
		if f, ok := recover().(fault); ok {
			l, e, at = nil, f.err, f.at
		}
	}()
	demand(len(source) <= api.MaxRecipeIn, api.ErrLimit, 0)
	s := &reader{tokens: tokens(source)}
	list, starts := s.recipes()
	demandRight(list, starts)
	return list, api.OK, 0
}

// demandRight gives up at the first error of recipes, each of which begins at an index.
func demandRight(l []api.Recipe, starts []int) {
	if len(l) > api.MaxRecipes {
		panic(fault{api.ErrLimit, starts[api.MaxRecipes]})
	}
	for i, r := range l {
		demand(isFormed(r), api.ErrForm, starts[i])
	}
	for i, r := range l {
		demand(!isNamed(l[:i], r.Name), api.ErrTwice, starts[i])
	}
}

// isNamed reports whether one of some recipes has a name.
func isNamed(l []api.Recipe, name string) bool {
	return slices.ContainsFunc(l, func(r api.Recipe) bool { return r.Name == name })
}

// reader reads tokens, the last of which is the end of the source. It gives up at the first one that no source has there.
type reader struct {
	tokens []token
	next   int
}

// text returns the text of the next token.
func (s *reader) text() string { return s.tokens[s.next].text }

// at returns the index of the next token.
func (s *reader) at() int { return s.tokens[s.next].at }

// skips goes behind the next token if it has a text, and reports whether it does.
func (s *reader) skips(text string) bool {
	if s.text() != text {
		return false
	}
	s.next++
	return true
}

// demand goes behind tokens that have to have some texts.
func (s *reader) demand(texts ...string) {
	for _, text := range texts {
		at := s.at()
		demand(s.skips(text), api.ErrForm, at)
	}
}

// read returns the text of a token that has to be of a sort, and goes behind it.
func (s *reader) read(isOf func(string) bool) string {
	text := s.text()
	demand(isOf(text), api.ErrForm, s.at())
	s.next++
	return text
}

func (s *reader) name() string { return s.read(isName) }

func (s *reader) number() int { return numberOf(s.read(isNumber)) }

// recipes reads all recipes, and returns the index at which each one begins.
func (s *reader) recipes() ([]api.Recipe, []int) {
	var l []api.Recipe
	var starts []int
	for s.text() != "" {
		starts = append(starts, s.at())
		l = append(l, s.recipe())
	}
	return l, starts
}

func (s *reader) recipe() api.Recipe {
	var r api.Recipe
	s.demand("recipe")
	r.Name = s.name()
	s.demand("of")
	stuff := s.name()
	r.Stuffs = []string{stuff}
	for s.skips("and") {
		stuff = s.name()
		r.Stuffs = append(r.Stuffs, stuff)
	}
	s.demand("{")
	for !s.skips("}") {
		x := s.rule()
		r.Rules = append(r.Rules, x)
	}
	return r
}

func (s *reader) rule() api.Rule {
	x := s.ruling()
	for s.skips("except") {
		s.demand("days")
		lo, hi := s.days()
		x.Except = append(x.Except, api.Span{Lo: lo, Hi: hi})
	}
	s.demand(";")
	return x
}

// ruling reads a rule as far as its exceptions.
func (s *reader) ruling() api.Rule {
	if s.skips("age") {
		return s.age()
	}
	counted := isNumber(s.text())
	first := s.term()
	if !counted && s.skips("from") {
		return s.share(first.Stuff)
	}
	return s.comparison(first)
}

// age reads a rule about an age behind its first word.
func (s *reader) age() api.Rule {
	x := api.Rule{Kind: api.RuAge}
	x.Stuff = s.name()
	s.demand("from")
	x.From, x.To = s.days()
	return x
}

// days reads two numbers of days.
func (s *reader) days() (int, int) {
	lo := s.number()
	s.demand("to")
	hi := s.number()
	return lo, hi
}

// share reads a rule about the share of a material behind its "from".
func (s *reader) share(stuff string) api.Rule {
	x := api.Rule{Kind: api.RuShare, Stuff: stuff}
	x.Lo = s.fraction()
	s.demand("to")
	x.Hi = s.fraction()
	return x
}

func (s *reader) fraction() api.Ratio {
	r := api.Ratio{Den: 1}
	r.Num = s.number()
	if s.skips("/") {
		r.Den = s.number()
	}
	return r
}

// comparison reads a rule that compares two sums behind its first term.
func (s *reader) comparison(first api.Term) api.Rule {
	x := api.Rule{Kind: api.RuCompare}
	x.Less = s.sum(first)
	s.demand("at", "most")
	first = s.term()
	x.More = s.sum(first)
	return x
}

// sum reads a sum behind its first term.
func (s *reader) sum(first api.Term) []api.Term {
	l := []api.Term{first}
	for s.skips("+") {
		t := s.term()
		l = append(l, t)
	}
	return l
}

func (s *reader) term() api.Term {
	t := api.Term{Factor: 1}
	if isNumber(s.text()) {
		t.Factor = s.number()
	}
	t.Stuff = s.name()
	return t
}

package recipe_test

import (
	"strings"
	"testing"

	"calx/api"
	"calx/recipe"
)

// grammar is told tokens, and follows the chapter's grammar on all ways at once, to tell how far it can be followed.
type grammar struct {
	tokens []string
	far    int // the first token that is not taken on any way
}

// way goes on from a token to those behind what it takes, on all ways.
type way func(g *grammar, at int) []int

// one takes a token of a sort.
func one(isOf func(string) bool) way {
	return func(g *grammar, at int) []int {
		g.far = max(g.far, at)
		if at < len(g.tokens) && isOf(g.tokens[at]) {
			return []int{at + 1}
		}
		return nil
	}
}

func mark(text string) way { return one(func(s string) bool { return s == text }) }

func number() way { return one(func(s string) bool { return s[0] >= '0' && s[0] <= '9' }) }

func name() way {
	return one(func(s string) bool {
		return s[0] >= 'a' && s[0] <= 'z' && !strings.Contains(" recipe of and from to age at most except days ", " "+s+" ")
	})
}

// all takes one after the other.
func all(ways ...way) way {
	return func(g *grammar, at int) []int {
		ends := []int{at}
		for _, w := range ways {
			var next []int
			for _, end := range ends {
				next = append(next, w(g, end)...)
			}
			ends = next
		}
		return ends
	}
}

// either takes one of several.
func either(ways ...way) way {
	return func(g *grammar, at int) []int {
		var ends []int
		for _, w := range ways {
			ends = append(ends, w(g, at)...)
		}
		return ends
	}
}

// repeated takes one any number of times.
func repeated(w way) way {
	return func(g *grammar, at int) []int {
		ends := []int{at}
		for i := 0; i < len(ends); i++ {
			ends = append(ends, w(g, ends[i])...)
		}
		return ends
	}
}

func maybe(w way) way { return either(all(), w) }

// source is the chapter's grammar.
func source() way {
	frac := all(number(), maybe(all(mark("/"), number())))
	term := all(maybe(number()), name())
	sum := all(term, repeated(all(mark("+"), term)))
	share := all(name(), mark("from"), frac, mark("to"), frac)
	compare := all(sum, mark("at"), mark("most"), sum)
	age := all(mark("age"), name(), mark("from"), number(), mark("to"), number())
	rule := all(either(share, compare, age), repeated(all(mark("except"), mark("days"), number(), mark("to"), number())))
	return repeated(all(mark("recipe"), name(), mark("of"), name(), repeated(all(mark("and"), name())), mark("{"), repeated(all(rule, mark(";"))), mark("}")))
}

// follow returns the first token up to which tokens are not the beginning of any source (or their number, if there is none), and whether they are a source.
func follow(tokens []string) (int, bool) {
	g := &grammar{tokens: tokens}
	for _, end := range source()(g, 0) {
		if end == len(tokens) {
			return end, true
		}
	}
	return g.far, false
}

// spell returns a source of tokens, and the index of each one, and of the end.
func (c chance) spell(tokens []string) (string, []int) {
	text := ""
	var starts []int
	for i, s := range tokens {
		if i > 0 && (!isSign(s) && !isSign(tokens[i-1]) || c.IntN(2) == 0) {
			text += []string{" ", "\n", "\t", " \n "}[c.IntN(4)]
		}
		starts = append(starts, len(text))
		text += s
	}
	return text, append(starts, len(text))
}

func isSign(s string) bool { return strings.Contains("/+;{}", s) }

// split returns the tokens of a printed text.
func split(text string) []string {
	for _, s := range []string{"/", "+", ";", "{", "}"} {
		text = strings.ReplaceAll(text, s, " "+s+" ")
	}
	return strings.Fields(text)
}

// spoil changes some tokens.
func (c chance) spoil(tokens []string) []string {
	words := []string{"recipe", "of", "and", "from", "to", "age", "at", "most", "except", "days", "lime", "sand", "other", "0", "1", "7", "100000", "/", "+", ";", "{", "}"}
	l := append([]string{}, tokens...)
	for range c.IntN(3) {
		at := c.IntN(len(l))
		switch c.IntN(4) {
		case 0:
			l[at] = words[c.IntN(len(words))]
		case 1:
			l = append(l[:at], l[at+1:]...)
		case 2:
			l = append(l[:at], append([]string{words[c.IntN(len(words))]}, l[at:]...)...)
		case 3:
			l = l[:at]
		}
		if len(l) == 0 {
			break
		}
	}
	return l
}

// TestGrammar compares where sources that were spoiled have their first error with the grammar.
func TestGrammar(t *testing.T) {
	sources, wrong, formed := 0, 0, 0
	for seed := range uint64(20000) {
		c := chanceOf(seed)
		var l []api.Recipe
		for i := range c.from(1, 3) {
			l = append(l, c.recipe(string(rune('a'+i)), c.from(1, 4), c.IntN(4), 9, 4))
		}
		text, e := recipe.Print(l)
		if e != api.OK {
			t.Fatal("P6.1:", l, e)
		}
		tokens := c.spoil(split(text))
		text, starts := c.spell(tokens)
		far, isSource := follow(tokens)
		got, e, at := recipe.Parse(text)
		switch {
		case !isSource:
			wrong++
			if e != api.ErrForm || at != starts[far] || len(got) != 0 {
				t.Fatalf("P6.1: %q: %v %v, not at %v", text, e, at, starts[far])
			}
		case e == api.OK:
			formed++
			again, e := recipe.Print(got)
			if strings.Join(split(again), " ") != strings.Join(canonical(tokens), " ") || e != api.OK {
				t.Fatalf("P6.10: %q %q %v", text, again, e)
			}
		case e == api.ErrForm || e == api.ErrTwice:
			sources++
			if at >= len(text) || !strings.HasPrefix(text[at:], "recipe") || len(got) != 0 {
				t.Fatalf("P6.1: %q: %v %v", text, e, at)
			}
		default:
			t.Fatalf("P6.1: %q: %v %v", text, e, at)
		}
	}
	if sources < 50 || wrong < 1000 || formed < 1000 {
		t.Error("too few of a sort:", sources, wrong, formed)
	}
}

// canonical returns tokens without factors of 1, and without denominators of 1.
func canonical(tokens []string) []string {
	var l []string
	for i, s := range tokens {
		isDen := i > 0 && tokens[i-1] == "/" && s == "1"
		isFactor := s == "1" && i+1 < len(tokens) && tokens[i+1][0] >= 'a' && !strings.Contains(" to except ", " "+tokens[i+1]+" ") && tokens[i+1][0] <= 'z'
		if isDen {
			l = l[:len(l)-1]
		} else if !isFactor {
			l = append(l, s)
		}
	}
	return l
}

// TestGarbage: every text has a result, and an error is told at a byte of it, or at its end.
func TestGarbage(t *testing.T) {
	const bytes = "recipof andtgmsxy 01239/+;{}\n\tA!"
	for seed := range uint64(20000) {
		c := chanceOf(seed)
		text := make([]byte, c.IntN(40))
		for i := range text {
			text[i] = bytes[c.IntN(len(bytes))]
		}
		l, e, at := recipe.Parse(string(text))
		if e != api.OK && (e != api.ErrForm || at < 0 || at > len(text) || len(l) != 0) || e == api.OK && len(l) > 0 {
			t.Fatalf("P6.1: %q: %v %v %v", text, l, e, at)
		}
	}
}

package tally

import (
	"strconv"
	"strings"

	"calx/api"
)

// fault is the index of a line that is none of a text.
type fault int

// Parse returns the bundle of a text, or an error and the index of its line.
func Parse(text string) (b api.Bundle, e api.Errno, at int) {
	defer func() {
		if f, ok := recover().(fault); ok {
			b, e, at = api.Bundle{}, api.ErrForm, int(f)
		}
	}()
	if len(text) > api.MaxTallyIn {
		return api.Bundle{}, api.ErrLimit, -1
	}
	b = readerOf(text).bundle()
	if e := Check(b); e != api.OK {
		return api.Bundle{}, e, -1
	}
	return b, api.OK, -1
}

// reader reads lines, and the words of one that are left. It panics with a fault at the first line that is none of a text, so that a text can be read without an error at each step.
type reader struct {
	lines []string
	rest  string // what stands behind the last line feed
	next  int
	words []string
}

func readerOf(text string) *reader {
	lines := strings.Split(text, "\n")
	last := len(lines) - 1
	return &reader{lines: lines[:last], rest: lines[last]}
}

// demand gives up at the line that is being read unless all is right.
func (r *reader) demand(isRight bool) {
	if !isRight {
		panic(fault(r.next))
	}
}

func (r *reader) bundle() api.Bundle {
	var b api.Bundle
	r.open("costs")
	b.Wrong = r.fee()
	b.Worn = r.fee()
	b.LostStock = r.fee()
	b.LostFoil = r.fee()
	r.close()
	r.open("worths")
	b.Worths = r.worths()
	r.close()
	b.Stocks = r.tallies("stock", len(b.Worths))
	b.Foils = r.tallies("foil", len(b.Worths))
	// Whatever is left is no line of a text here.
	r.demand(r.next == len(r.lines) && r.rest == "")
	return b
}

// open begins to read the next line, which has to be of a kind.
func (r *reader) open(kind string) {
	r.demand(r.next < len(r.lines))
	r.words = strings.Split(r.lines[r.next], " ")
	first := r.word()
	r.demand(first == kind)
}

// close ends reading a line, no word of which may be left.
func (r *reader) close() {
	r.demand(len(r.words) == 0)
	r.next++
}

// word returns the next word of a line.
func (r *reader) word() string {
	r.demand(len(r.words) > 0)
	first := r.words[0]
	r.words = r.words[1:]
	return first
}

// number returns the number that the next word is, if it is right.
func (r *reader) number(isRight func(int) bool) int {
	word := r.word()
	n, err := strconv.Atoi(word)
	r.demand(err == nil && strconv.Itoa(n) == word && isRight(n))
	return n
}

func (r *reader) fee() int { return r.number(isFee) }

func (r *reader) worths() []int {
	var l []int
	for len(r.words) > 0 {
		n := r.number(isWorth)
		l = append(l, n)
	}
	r.demand(areWorths(l))
	return l
}

// tallies reads tallies of a kind, as far as such lines go.
func (r *reader) tallies(kind string, notches int) []api.Tally {
	var l []api.Tally
	for r.next < len(r.lines) && strings.HasPrefix(r.lines[r.next], kind) {
		x := r.tally(kind, notches)
		l = append(l, x)
	}
	return l
}

func (r *reader) tally(kind string, notches int) api.Tally {
	var x api.Tally
	r.open(kind)
	x.ID = r.number(isID)
	x.Who = r.number(isPerson)
	for range notches {
		n := r.notch()
		x.Notches = append(x.Notches, n)
	}
	r.close()
	return x
}

func (r *reader) notch() int {
	if len(r.words) > 0 && r.words[0] == wornSign {
		r.words = r.words[1:]
		return api.WornNotch
	}
	return r.number(func(n int) bool { return isWithin(n, 0, api.MaxNotch) })
}

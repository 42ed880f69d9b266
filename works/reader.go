package works

import (
	"strconv"
	"strings"

	"calx/api"
)

// fault is the index of a line that is not that of a command.
type fault int

// Parse returns the commands of a text, or an error and the line in which it lies.
func Parse(text string) (l []api.Command, e api.Errno, at int) {
	defer func() {
		if f, ok := recover().(fault); ok {
			l, e, at = nil, api.ErrForm, int(f)
		}
	}()
	if strings.Count(text, "\n") > api.MaxScript {
		return nil, api.ErrLimit, -1
	}
	lines := strings.Split(text, "\n")
	r := reader{lines: lines[:len(lines)-1], rest: lines[len(lines)-1]}
	return r.commands(), api.OK, -1
}

// reader reads lines word by word. It panics with a fault at the first line that is not that of a command, so that each word can be read without an error of its own.
type reader struct {
	lines   []string
	rest    string // what stands behind the last line feed
	next    int
	left    string // what is not yet read of the next line
	hasLeft bool   // whether that is a word, which can be empty
}

// demand gives up at the line that is being read unless all is right.
func (r *reader) demand(isRight bool) {
	if !isRight {
		panic(fault(r.next))
	}
}

func (r *reader) commands() []api.Command {
	var l []api.Command
	for r.next < len(r.lines) {
		c := r.command()
		l = append(l, c)
		r.next++
	}
	r.demand(r.rest == "")
	return l
}

// command reads the next line.
func (r *reader) command() api.Command {
	r.left, r.hasLeft = r.lines[r.next], true
	first := r.word()
	k, ok := kindsBy(first)
	r.demand(ok)
	c := k.blank()
	for _, f := range fieldsOf(&c) {
		*f.at = r.number()
	}
	r.demand(!r.hasLeft && isFormed(c))
	return c
}

// word returns the next word of a line.
func (r *reader) word() string {
	r.demand(r.hasLeft)
	first, left, hasLeft := strings.Cut(r.left, " ")
	r.left, r.hasLeft = left, hasLeft
	return first
}

// number returns the number that the next word is.
func (r *reader) number() int {
	word := r.word()
	n, err := strconv.Atoi(word)
	r.demand(err == nil && strconv.Itoa(n) == word)
	return n
}

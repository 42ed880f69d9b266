package works

import (
	"slices"
	"strconv"
	"strings"

	"calx/api"
)

// Check returns the first error of a script, and where it lies.
func Check(s api.Script) (api.Errno, int) {
	if e := CheckSite(s.Site); e != api.OK {
		return e, -1
	}
	if len(s.Commands) > api.MaxScript {
		return api.ErrLimit, -1
	}
	if at := slices.IndexFunc(s.Commands, func(c api.Command) bool { return !isFormed(c) }); at >= 0 {
		return api.ErrForm, at
	}
	return api.OK, -1
}

// checkReplies returns the first error of a script, and where it lies, or ErrArg unless it has as many commands as there are replies.
func checkReplies(s api.Script, l []api.Reply) (api.Errno, int) {
	if e, at := Check(s); e != api.OK {
		return e, at
	}
	if len(l) != len(s.Commands) {
		return api.ErrArg, -1
	}
	return api.OK, -1
}

// Run returns the replies to all commands of a script.
func Run(s api.Script) ([]api.Reply, api.Errno) {
	if e, _ := Check(s); e != api.OK {
		return nil, e
	}
	o := officeOf(s.Site)
	var l []api.Reply
	for _, c := range s.Commands {
		r := o.Do(c)
		l = append(l, r)
	}
	return l, api.OK
}

// Transcript returns a line for each reply.
func Transcript(s api.Script, l []api.Reply) ([]string, api.Errno) {
	if e, _ := checkReplies(s, l); e != api.OK {
		return nil, e
	}
	var lines []string
	for i, c := range s.Commands {
		lines = append(lines, strings.Join(wordsOf(c.Kind, l[i]), " "))
	}
	return lines, api.OK
}

// wordsOf returns the words of the line for a reply to a command of a kind.
func wordsOf(kind int, r api.Reply) []string {
	if r.Err != api.OK {
		return phrase("error", int(r.Err))
	}
	switch kind {
	case api.CoWeight, api.CoWhere, api.CoBaked, api.CoTook:
		return spanWords(r.Span)
	case api.CoHeat:
		return spanWords(r.Bounds.Span)
	case api.CoBarrow:
		return phrase("has", numbersOf(r.Parts)...)
	case api.CoFrom:
		return slices.Concat(phrase("surely", r.Sure...), phrase("perhaps", r.Maybe...))
	case api.CoStands, api.CoGrown:
		return slices.Concat(phrase("root", r.Root), phrase("of", r.Many))
	}
	return phrase("ok")
}

func spanWords(s api.Span) []string { return slices.Concat(phrase("from", s.Lo), phrase("to", s.Hi)) }

// phrase returns a word, and numbers behind it.
func phrase(word string, numbers ...int) []string {
	words := []string{word}
	for _, n := range numbers {
		words = append(words, strconv.Itoa(n))
	}
	return words
}

// numbersOf returns the numbers that parts are told by.
func numbersOf(parts []api.Part) []int {
	var l []int
	for _, x := range parts {
		l = append(l, x.Pour, x.Amount.Num, x.Amount.Den)
	}
	return l
}

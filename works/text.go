package works

import (
	"strconv"
	"strings"

	"calx/api"
)

// Print returns the text of commands.
func Print(l []api.Command) (string, api.Errno) {
	if len(l) > api.MaxScript {
		return "", api.ErrLimit
	}
	if !all(l, isFormed) {
		return "", api.ErrForm
	}
	text := ""
	for _, c := range l {
		text += lineOf(c) + "\n"
	}
	return text, api.OK
}

// lineOf returns the line of a command that is formed.
func lineOf(c api.Command) string {
	word, _ := wordOf(c)
	words := []string{word}
	for _, f := range fieldsOf(&c) {
		words = append(words, strconv.Itoa(*f.at))
	}
	return strings.Join(words, " ")
}

package recipe

import (
	"strconv"
	"strings"

	"calx/api"
)

const (
	blanks    = " \t\n"
	signs     = "/+;{}"
	maxNumber = 100000 // the greatest number of a source
)

// token is a word, a number or a sign of a source, and the index of its first byte. The end of a source is a token without text.
type token struct {
	text string
	at   int
}

// tokens returns the tokens of a source, and its end. It gives up at the first error of one.
func tokens(source string) []token {
	var l []token
	for at := 0; at < len(source); {
		if isOneOf(source[at], blanks) {
			at++
			continue
		}
		text := longest(source[at:])
		demand(isToken(text), api.ErrForm, at)
		l = append(l, token{text, at})
		at += len(text)
		// Behind the longest token there is room for a sign or a blank, but not for a further word or number.
		demand(isSign(text) || !isWord(source[at:]) && !isNumber(source[at:]), api.ErrForm, at)
	}
	return append(l, token{"", len(source)})
}

// longest returns the longest word or number, or else the byte, with which a text begins.
func longest(text string) string {
	n := 1
	switch {
	case isWord(text):
		n = count(text, isLetter)
	case isNumber(text) && text[0] != '0':
		n = count(text, isDigit)
	}
	return text[:n]
}

// count returns how many bytes at the beginning of a text are of a sort.
func count(text string, isOf func(byte) bool) int {
	n := 0
	for n < len(text) && isOf(text[n]) {
		n++
	}
	return n
}

// isToken reports whether the longest token with which a text begins is right.
func isToken(text string) bool {
	switch {
	case isWord(text):
		return len(text) <= api.MaxName
	case isNumber(text):
		return len(text) <= len(strconv.Itoa(maxNumber)) && numberOf(text) <= maxNumber
	}
	return isSign(text)
}

// numberOf returns the number that some digits are.
func numberOf(digits string) int {
	n := 0
	for i := range len(digits) {
		n = 10*n + int(digits[i]-'0')
	}
	return n
}

// isWord reports whether a text begins with a word, isNumber with a number, isSign with a sign.
func isWord(text string) bool { return text != "" && isLetter(text[0]) }

func isNumber(text string) bool { return text != "" && isDigit(text[0]) }

func isSign(text string) bool { return text != "" && isOneOf(text[0], signs) }

func isLetter(c byte) bool { return 'a' <= c && c <= 'z' }

func isDigit(c byte) bool { return '0' <= c && c <= '9' }

func isOneOf(c byte, bytes string) bool { return strings.IndexByte(bytes, c) >= 0 }

// isName reports whether a text is a word that is not reserved.
func isName(text string) bool {
	return isWord(text) && len(text) <= api.MaxName && count(text, isLetter) == len(text) && !isReserved(text)
}

func isReserved(word string) bool {
	switch word {
	case "recipe", "of", "and", "from", "to", "age", "at", "most", "except", "days":
		return true
	}
	return false
}

package tally

import (
	"slices"
	"strconv"
	"strings"

	"calx/api"
)

// wornSign is what stands in a text for a worn notch.
const wornSign = "-"

// Print returns the text of a bundle.
func Print(b api.Bundle) (string, api.Errno) {
	if e := Check(b); e != api.OK {
		return "", e
	}
	text := line("costs", b.Wrong, b.Worn, b.LostStock, b.LostFoil) + line("worths", b.Worths...)
	for _, x := range b.Stocks {
		text += lineOf("stock", x)
	}
	for _, x := range b.Foils {
		text += lineOf("foil", x)
	}
	return text, api.OK
}

func lineOf(kind string, x api.Tally) string {
	return line(kind, slices.Concat([]int{x.ID, x.Who}, x.Notches)...)
}

func line(kind string, numbers ...int) string {
	words := []string{kind}
	for _, n := range numbers {
		words = append(words, wordOf(n))
	}
	return strings.Join(words, " ") + "\n"
}

// wordOf returns the word for a number; of all numbers of a text, only a notch can be below 0.
func wordOf(n int) string {
	if n == api.WornNotch {
		return wornSign
	}
	return strconv.Itoa(n)
}

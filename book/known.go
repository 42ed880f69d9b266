package book

import (
	"slices"

	"calx/api"
)

// Known returns how many entries were written up to a day.
func Known(l []api.Entry, day int) (int, api.Errno) {
	if e := Check(l); e != api.OK {
		return 0, e
	}
	if !isDay(day) {
		return 0, api.ErrArg
	}
	return len(writtenBy(l, day)), api.OK
}

// Total returns the sums of a kind for somebody, up to a day.
func Total(l []api.Entry, kind, who, day int) (int, api.Errno) {
	if e := Check(l); e != api.OK {
		return 0, e
	}
	if !isKind(kind) || !isPerson(who) || !isDay(day) {
		return 0, api.ErrArg
	}
	return fold(writtenBy(l, day), 0, func(sum int, x api.Entry) int {
		if x.Kind != kind || x.Who != who {
			return sum
		}
		return sum + x.Sum
	}), api.OK
}

// writtenBy returns the first entries of a book, up to a day.
func writtenBy(l []api.Entry, day int) []api.Entry {
	many := slices.IndexFunc(l, func(x api.Entry) bool { return x.Day > day })
	if many < 0 {
		return l
	}
	return l[:many:many]
}

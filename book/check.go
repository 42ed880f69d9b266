// Package book is layer 8: books as trees of digests, with proofs that an entry stands in a book, and that a book only went on (shared/doc/08-book.md).
package book

import (
	"slices"

	"calx/api"
)

// lastKind is the greatest kind of an entry.
const lastKind = 9

// Check returns the first error of entries.
func Check(l []api.Entry) api.Errno {
	if len(l) > api.MaxEntries {
		return api.ErrLimit
	}
	if !areEntries(l) {
		return api.ErrArg
	}
	return api.OK
}

// checkBooks returns the first error of books.
func checkBooks(books ...[]api.Entry) api.Errno {
	for _, l := range books {
		if e := Check(l); e != api.OK {
			return e
		}
	}
	return api.OK
}

// areEntries reports whether entries are right, and their days do not fall.
func areEntries(l []api.Entry) bool { return all(l, isEntry) && !isFalling(l) }

// isFalling reports whether a day of entries is greater than a later one.
func isFalling(l []api.Entry) bool {
	return !slices.IsSortedFunc(l, func(x, y api.Entry) int { return x.Day - y.Day })
}

func isEntry(x api.Entry) bool {
	return isDay(x.Day) && isKind(x.Kind) && isPerson(x.Who) && isWithin(x.Sum, 0, api.MaxSum)
}

func isDay(day int) bool { return isWithin(day, 0, api.MaxDay) }

func isKind(kind int) bool { return isWithin(kind, 0, lastKind) }

func isPerson(who int) bool { return isWithin(who, 0, api.MaxWho) }

// isMany reports whether a book can have so many entries.
func isMany(many int) bool { return isWithin(many, 0, api.MaxEntries) }

func isDigest(n int) bool { return isWithin(n, 0, api.Modulus-1) }

func isWithin(n, least, most int) bool { return least <= n && n <= most }

// all reports whether something is so of each element of a list.
func all[T any](l []T, isSo func(T) bool) bool {
	return !slices.ContainsFunc(l, func(x T) bool { return !isSo(x) })
}

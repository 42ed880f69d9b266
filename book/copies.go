package book

import "calx/api"

// Majority returns the book that most copies agree upon, up to where they do.
func Majority(l [][]api.Entry) ([]api.Entry, api.Errno) {
	if e := checkCopies(l); e != api.OK {
		return nil, e
	}
	var book []api.Entry
	alike := l
	for {
		x, count := mostFrequent(entriesAt(alike, len(book)))
		if 2*count <= len(l) {
			return book, api.OK
		}
		alike = having(alike, len(book), x)
		book = append(book, x)
	}
}

// checkCopies returns the first error of copies.
func checkCopies(l [][]api.Entry) api.Errno {
	if len(l) > api.MaxCopies {
		return api.ErrLimit
	}
	if len(l) == 0 {
		return api.ErrArg
	}
	return checkBooks(l...)
}

// entriesAt returns the entries that copies have at an index; shorter ones have none.
func entriesAt(copies [][]api.Entry, at int) []api.Entry {
	var l []api.Entry
	for _, c := range copies {
		if at < len(c) {
			l = append(l, c[at])
		}
	}
	return l
}

// having returns the copies that have an entry at an index.
func having(copies [][]api.Entry, at int, x api.Entry) [][]api.Entry {
	var l [][]api.Entry
	for _, c := range copies {
		if at < len(c) && c[at] == x {
			l = append(l, c)
		}
	}
	return l
}

// mostFrequent returns what is found most often (the first such thing), and how often; of nothing, zeros.
func mostFrequent[T comparable](l []T) (T, int) {
	counts := map[T]int{}
	for _, x := range l {
		counts[x]++
	}
	var best T
	most := 0
	for _, x := range l {
		if counts[x] > most {
			best, most = x, counts[x]
		}
	}
	return best, most
}

package book

import "calx/api"

// source is what digests of trees are made of: those of trees that are told, and entries by their indices.
type source struct {
	told    map[tree]int
	entries map[int]api.Entry
}

// sourceOf returns the source that a book is.
func sourceOf(l []api.Entry) source {
	s := source{entries: map[int]api.Entry{}}
	for at, x := range l {
		s.entries[at] = x
	}
	return s
}

// digest returns the digest of a tree.
func (s source) digest(t tree) int {
	if d, isTold := s.told[t]; isTold {
		return d
	}
	return digestOf(s.numbers(t)...)
}

// numbers returns what the digest of a tree is made of.
func (s source) numbers(t tree) []int {
	switch t.long {
	case 0:
		return []int{emptySign}
	case 1:
		n := numbersOf(s.entries[t.from])
		return n[:]
	}
	l := []int{treeSign, t.long}
	for half := range t.halves() {
		d := s.digest(half)
		l = append(l, d)
	}
	return l
}

// Root returns the digest of a book.
func Root(l []api.Entry) (int, api.Errno) {
	if e := Check(l); e != api.OK {
		return 0, e
	}
	return rootOf(l), api.OK
}

// Part returns the digest of some entries of a book, as a tree of their own.
func Part(l []api.Entry, from, long int) (int, api.Errno) {
	if e := Check(l); e != api.OK {
		return 0, e
	}
	if !isWithin(from, 0, len(l)) || !isWithin(long, 0, len(l)-from) {
		return 0, api.ErrArg
	}
	return rootOf(l[from : from+long : from+long]), api.OK
}

func rootOf(l []api.Entry) int { return sourceOf(l).digest(tree{0, len(l)}) }

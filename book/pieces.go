package book

import (
	"iter"

	"calx/api"
)

// CheckPieces returns the first error of pieces.
func CheckPieces(l []api.Piece) api.Errno {
	_, e := gather(l)
	return e
}

// Join returns the pieces of a book as few pieces.
func Join(l []api.Piece) ([]api.Piece, api.Errno) {
	entries, e := gather(l)
	if e != api.OK {
		return nil, e
	}
	var joined []api.Piece
	for s := range runs(api.MaxEntries, entries.has) {
		joined = append(joined, api.Piece{From: s.Lo, Entries: entries.within(s.Lo, s.Hi)})
	}
	return joined, api.OK
}

// Missing returns which entries of a book of some length are in no piece.
func Missing(l []api.Piece, many int) ([]api.Span, api.Errno) {
	entries, e := gather(l)
	if e != api.OK {
		return nil, e
	}
	if !isMany(many) {
		return nil, api.ErrArg
	}
	var missing []api.Span
	for s := range runs(many, func(at int) bool { return !entries.has(at) }) {
		missing = append(missing, s)
	}
	return missing, api.OK
}

// Whole returns the book that pieces make, if its digest is one.
func Whole(l []api.Piece, many, root int) ([]api.Entry, api.Errno) {
	entries, e := gather(l)
	if e != api.OK {
		return nil, e
	}
	if !isMany(many) || !isDigest(root) {
		return nil, api.ErrArg
	}
	book := entries.within(0, many-1)
	if len(book) < many {
		return nil, api.ErrNone
	}
	if rootOf(book) != root {
		return nil, api.ErrProof
	}
	return book, api.OK
}

// gathered is entries of a book by their indices.
type gathered map[int]api.Entry

// gather returns the entries of pieces, or the first error of these.
func gather(l []api.Piece) (gathered, api.Errno) {
	if len(l) > api.MaxPieces {
		return nil, api.ErrLimit
	}
	if !all(l, isPiece) {
		return nil, api.ErrArg
	}
	entries := gathered{}
	for _, p := range l {
		for i, x := range p.Entries {
			other, isKnown := entries[p.From+i]
			if isKnown && other != x {
				return nil, api.ErrClash
			}
			entries[p.From+i] = x
		}
	}
	if isFalling(entries.within(0, api.MaxEntries-1)) {
		return nil, api.ErrClash
	}
	return entries, api.OK
}

func isPiece(p api.Piece) bool {
	return len(p.Entries) > 0 && isWithin(p.From, 0, api.MaxEntries-len(p.Entries)) && areEntries(p.Entries)
}

func (g gathered) has(at int) bool {
	_, isKnown := g[at]
	return isKnown
}

// within returns the entries that are known of some indices, in order.
func (g gathered) within(first, last int) []api.Entry {
	var l []api.Entry
	for at := first; at <= last; at++ {
		if x, isKnown := g[at]; isKnown {
			l = append(l, x)
		}
	}
	return l
}

// runs yields, in order, the longest spans of indices of a book of some length that are all so.
func runs(many int, isSo func(at int) bool) iter.Seq[api.Span] {
	return func(yield func(api.Span) bool) {
		from := 0
		for at := range many + 1 {
			if at < many && isSo(at) {
				continue
			}
			if from < at && !yield(api.Span{Lo: from, Hi: at - 1}) {
				return
			}
			from = at + 1
		}
	}
}

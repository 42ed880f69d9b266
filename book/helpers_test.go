package book_test

import (
	"math/rand/v2"
	"slices"

	"calx/api"
)

func list(l ...int) []int { return l }

func entry(day, kind, who, sum int) api.Entry {
	return api.Entry{Day: day, Kind: kind, Who: who, Sum: sum}
}

func entries(l ...api.Entry) []api.Entry { return l }

func twig(from, long, digest int) api.Twig {
	return api.Twig{From: from, Long: long, Digest: digest}
}

func twigs(l ...api.Twig) []api.Twig { return l }

func piece(from int, l ...api.Entry) api.Piece { return api.Piece{From: from, Entries: l} }

func pieces(l ...api.Piece) []api.Piece { return l }

func copies(l ...[]api.Entry) [][]api.Entry { return l }

// a, b and c are the entries of the chapter's examples, with their digests.
var (
	a = entry(1, 0, 5, 10)
	b = entry(1, 1, 5, 4)
	c = entry(3, 0, 6, 7)
)

const (
	digestA   = 646776846
	digestB   = 2072880994
	digestC   = 599416721
	digestAB  = 1127476328
	digestABC = 674735587
	nothing   = 1000006 // the digest of no entries
)

// last is the greatest digest.
const last = api.Modulus - 1

// plain returns a book of so many entries, no two of which are alike.
func plain(many int) []api.Entry {
	var l []api.Entry
	for i := range many {
		l = append(l, entry(i/3, i%10, 7*i, 1000+i))
	}
	return l
}

// wrongEntries are entries that are not right.
func wrongEntries() []api.Entry {
	var l []api.Entry
	far := list(-1, -1<<63, 1<<63-1)
	for _, n := range append(far, api.MaxDay+1) {
		l = append(l, entry(n, 1, 1, 1))
	}
	for _, n := range append(far, 10) {
		l = append(l, entry(1, n, 1, 1))
	}
	for _, n := range append(far, api.MaxWho+1) {
		l = append(l, entry(1, 1, n, 1))
	}
	for _, n := range append(far, api.MaxSum+1) {
		l = append(l, entry(1, 1, 1, n))
	}
	return l
}

// wrongDigests are numbers that are no digests.
func wrongDigests() []int { return list(-1, api.Modulus, -1<<63, 1<<63-1) }

// chance makes books at random, the same for the same seed.
type chance struct{ *rand.Rand }

func chanceOf(seed uint64) chance { return chance{rand.New(rand.NewPCG(seed, 8))} }

// from returns a number from lo to hi.
func (c chance) from(lo, hi int) int { return lo + c.IntN(hi-lo+1) }

// digest returns any digest.
func (c chance) digest() int { return c.from(0, last) }

// entry returns any right entry of a day.
func (c chance) entry(day int) api.Entry {
	if c.IntN(2) == 0 {
		return entry(day, c.IntN(2), c.IntN(2), c.IntN(2))
	}
	return entry(day, c.from(0, 9), c.from(0, api.MaxWho), c.from(0, api.MaxSum))
}

// book returns a book of so many entries, some of which are alike.
func (c chance) book(many int) []api.Entry {
	var l []api.Entry
	day := c.from(0, 3)
	for range many {
		l = append(l, c.entry(day))
		day = min(day+c.IntN(3)/2*c.from(0, 20), api.MaxDay)
	}
	return l
}

// pieces returns pieces of a book that may overlap, and may leave something out.
func (c chance) pieces(l []api.Entry) []api.Piece {
	var all []api.Piece
	for range c.from(0, api.MaxPieces) {
		if len(l) == 0 {
			break
		}
		from := c.IntN(len(l))
		long := c.from(1, min(len(l)-from, c.from(1, 30)))
		all = append(all, piece(from, slices.Clone(l[from:from+long])...))
	}
	return all
}

// changedAt returns a book with another entry.
func changedAt(l []api.Entry, at int, x api.Entry) []api.Entry {
	l = slices.Clone(l)
	l[at] = x
	return l
}

// changedTwig returns twigs with another one.
func changedTwig(p []api.Twig, i int, change func(x *api.Twig)) []api.Twig {
	p = slices.Clone(p)
	change(&p[i])
	return p
}

func equalPieces(a, b []api.Piece) bool {
	return slices.EqualFunc(a, b, func(x, y api.Piece) bool { return x.From == y.From && slices.Equal(x.Entries, y.Entries) })
}

// clonePieces returns the same pieces, with memory of their own.
func clonePieces(l []api.Piece) []api.Piece {
	var all []api.Piece
	for _, p := range l {
		all = append(all, piece(p.From, slices.Clone(p.Entries)...))
	}
	return all
}

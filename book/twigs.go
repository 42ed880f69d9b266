package book

import (
	"slices"

	"calx/api"
)

// Stands returns a proof that an entry stands in a book.
func Stands(l []api.Entry, at int) ([]api.Twig, api.Errno) {
	if e := Check(l); e != api.OK {
		return nil, e
	}
	if !isWithin(at, 0, len(l)-1) {
		return nil, api.ErrArg
	}
	return standing(l, at), api.OK
}

// standing returns the proof that the entry at an index of a book stands there.
func standing(l []api.Entry, at int) []api.Twig { return twigsOf(l, tree{0, len(l)}.beside(at)) }

// CheckStands returns OK if a proof shows that an entry stands in a book of which the digest is known.
func CheckStands(root, many, at int, x api.Entry, p []api.Twig) api.Errno {
	if !isEntry(x) || !isWithin(many, 1, api.MaxEntries) || !isWithin(at, 0, many-1) || !isDigest(root) || !areTwigs(p) {
		return api.ErrArg
	}
	whole := tree{0, many}
	if !areOf(p, whole.beside(at)) || sourceAt(at, x, p).digest(whole) != root {
		return api.ErrProof
	}
	return api.OK
}

// Grown returns a proof that a book went on from its first entries.
func Grown(l []api.Entry, first int) ([]api.Twig, api.Errno) {
	if e := Check(l); e != api.OK {
		return nil, e
	}
	if !isWithin(first, 0, len(l)) {
		return nil, api.ErrArg
	}
	return twigsOf(l, tree{0, len(l)}.cut(first)), api.OK
}

// CheckGrown returns OK if a proof shows that a book went on from another one; of both the digests are known.
func CheckGrown(before, first, root, many int, p []api.Twig) api.Errno {
	if !isMany(many) || !isWithin(first, 0, many) || !isDigest(before) || !isDigest(root) || !areTwigs(p) {
		return api.ErrArg
	}
	whole := tree{0, many}
	if !areOf(p, whole.cut(first)) {
		return api.ErrProof
	}
	s := source{told: toldBy(p)}
	if s.digest(whole) != root || s.before(first) != before {
		return api.ErrProof
	}
	return api.OK
}

// before returns the digest of the first entries. A twig may tell what it likes of a book without entries, but that of none is known.
func (s source) before(first int) int {
	if first == 0 {
		return digestOf(emptySign)
	}
	return s.digest(tree{0, first})
}

// twigsOf returns the twigs of trees of a book.
func twigsOf(l []api.Entry, trees []tree) []api.Twig {
	s := sourceOf(l)
	var p []api.Twig
	for _, t := range trees {
		p = append(p, t.twig(s.digest(t)))
	}
	return p
}

func (t tree) twig(digest int) api.Twig {
	return api.Twig{From: t.from, Long: t.long, Digest: digest}
}

// sourceAt returns the source that an entry at an index, and twigs are.
func sourceAt(at int, x api.Entry, p []api.Twig) source {
	return source{toldBy(p), map[int]api.Entry{at: x}}
}

// toldBy returns the digests that twigs tell.
func toldBy(p []api.Twig) map[tree]int {
	told := map[tree]int{}
	for _, x := range p {
		told[tree{x.From, x.Long}] = x.Digest
	}
	return told
}

// areTwigs reports whether twigs tell digests.
func areTwigs(p []api.Twig) bool {
	return all(p, func(x api.Twig) bool { return isDigest(x.Digest) })
}

// areOf reports whether twigs are those of trees, but for their digests.
func areOf(p []api.Twig, trees []tree) bool {
	return slices.EqualFunc(p, trees, func(x api.Twig, t tree) bool { return x == t.twig(x.Digest) })
}

package book

import (
	"slices"

	"calx/api"
)

// Gap returns two different things with the same digest, if a proof that is accepted is not that of a book.
func Gap(l []api.Entry, at int, x api.Entry, p []api.Twig) (api.Gap, bool, api.Errno) {
	if e := Check(l); e != api.OK {
		return api.Gap{}, false, e
	}
	switch CheckStands(rootOf(l), len(l), at, x, p) {
	case api.ErrArg:
		return api.Gap{}, false, api.ErrArg
	case api.ErrProof:
		return api.Gap{}, false, api.OK
	}
	told, own := sourceAt(at, x, p), sourceOf(l)
	for _, t := range (tree{0, len(l)}).around(at) {
		g := api.Gap{A: told.numbers(t), B: own.numbers(t)}
		if CheckGap(g) == api.OK {
			return g, true, api.OK
		}
	}
	return api.Gap{}, false, api.OK
}

// CheckGap returns OK if two different things have the same digest.
func CheckGap(g api.Gap) api.Errno {
	a, e := Digest(g.A)
	b, f := Digest(g.B)
	if e != api.OK || f != api.OK || a != b || slices.Equal(g.A, g.B) {
		return api.ErrProof
	}
	return api.OK
}

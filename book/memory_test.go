package book_test

import (
	"slices"
	"testing"

	"calx/api"
	"calx/book"
)

// spare is what stands behind the ends of lists.
var spare = entry(-7, -7, -7, -7)

// roomy returns the same entries, with more behind their end.
func roomy(l ...api.Entry) []api.Entry {
	return append(slices.Clone(l), spare, spare, spare)[:len(l)]
}

// isKept reports whether entries are still those, also behind their end.
func isKept(l []api.Entry, want ...api.Entry) bool {
	return slices.Equal(l[:len(l)+3], append(slices.Clone(want), spare, spare, spare))
}

// spoil makes all of a list another thing, also behind its end.
func spoil[T any](l []T, x T) {
	l = l[:cap(l)]
	for i := range l {
		l[i] = x
	}
}

// useProofs calls the functions of proofs, and spoils what they return.
func useProofs(t *testing.T, l, m []api.Entry, p []api.Twig) {
	t.Helper()
	for range 2 {
		stands, e1 := book.Stands(l, 1)
		grown, e2 := book.Grown(l, 1)
		if !slices.Equal(stands, p) || !slices.Equal(grown, twigs(twig(0, 1, digestA), twig(1, 1, digestB), twig(2, 1, digestC))) || max(e1, e2) != api.OK {
			t.Error("R6:", stands, grown)
		}
		spoil(stands, twig(-7, -7, -7))
		spoil(grown, twig(-7, -7, -7))
		at, one, other, parted, e := book.Fork(l, m)
		if at != 1 || !slices.Equal(one, p) || !slices.Equal(other, p[:1]) || !parted || e != api.OK {
			t.Error("R6:", at, one, other, parted, e)
		}
		spoil(one, twig(-7, -7, -7))
		if !slices.Equal(other, p[:1]) {
			t.Error("R6: both proofs share memory")
		}
		spoil(other, twig(-7, -7, -7))
		x := c
		forged := twigs(twig(0, 1, completed(list(1, 2, 0, leafOf(x)), 2, digestAB)), p[1])
		g, found, e := book.Gap(l, 1, x, forged)
		if !found || e != api.OK || !equalGaps(g, api.Gap{A: list(1, 2, forged[0].Digest, digestC), B: list(1, 2, digestA, digestB)}) {
			t.Error("R6:", g, found, e)
		}
		spoil(g.A, -7)
		if !slices.Equal(g.B, list(1, 2, digestA, digestB)) {
			t.Error("R6: both lists of a gap share memory")
		}
		spoil(g.B, -7)
		e1 = book.CheckStands(digestABC, 3, 1, b, p)
		e2 = book.CheckGrown(digestA, 1, digestABC, 3, twigs(twig(0, 1, digestA), twig(1, 1, digestB), twig(2, 1, digestC)))
		if max(e1, e2) != api.OK {
			t.Error("R6:", e1, e2)
		}
	}
}

// useNumbers calls the functions that return numbers.
func useNumbers(t *testing.T, l, m []api.Entry) {
	t.Helper()
	root, e1 := book.Root(l)
	part, e2 := book.Part(l, 0, 2)
	known, e3 := book.Known(l, 2)
	total, e4 := book.Total(l, 0, 5, 2)
	if root != digestABC || part != digestAB || known != 2 || total != 10 || max(e1, e2, e3, e4, book.Check(l)) != api.OK {
		t.Error("R6:", root, part, known, total)
	}
	if _, _, _, e := book.Compare(l, m); e != api.ErrArg {
		t.Error("R6:", e)
	}
	numbers := list(2, -7, -7)
	if d, e := book.Digest(numbers[:1]); d != nothing || e != api.OK || !slices.Equal(numbers, list(2, -7, -7)) {
		t.Error("R6:", d, e, numbers)
	}
	g := api.Gap{A: list(api.Modulus-api.Base, -7)[:1], B: list(-7)[:0]}
	if e := book.CheckGap(g); e != api.OK || !slices.Equal(g.A[:2], list(api.Modulus-api.Base, -7)) || g.B[:1][0] != -7 {
		t.Error("R6:", g, e)
	}
}

// TestMemory: arguments stay as they are, also behind their ends; results share no memory.
func TestMemory(t *testing.T) {
	l, m := roomy(a, b, c), roomy(a, c)
	p := twigs(twig(0, 1, digestA), twig(2, 1, digestC), twig(-7, -7, -7))
	useProofs(t, l, m, p[:2])
	useNumbers(t, l, m)
	if !isKept(l, a, b, c) || !isKept(m, a, c) || !slices.Equal(p, twigs(twig(0, 1, digestA), twig(2, 1, digestC), twig(-7, -7, -7))) {
		t.Error("R6: an argument is changed:", l, m, p)
	}
}

// TestPiecesMemory: likewise of pieces, and of copies.
func TestPiecesMemory(t *testing.T) {
	l := append(pieces(piece(5, roomy(c)...), piece(0, roomy(a, b)...), piece(1, roomy(b, c)...)), piece(-7, spare))
	kept := clonePieces(l)
	for range 2 {
		joined, e := book.Join(l[:3])
		if !equalPieces(joined, pieces(piece(0, a, b, c), piece(5, c))) || e != api.OK {
			t.Error("R6:", joined, e)
		}
		spoil(joined[0].Entries, spare)
		if !equalPieces(joined[1:], pieces(piece(5, c))) {
			t.Error("R6: joined pieces share memory:", joined)
		}
		spoil(joined[1].Entries, spare)
		spoil(joined, api.Piece{})
		missing, e := book.Missing(l[:3], 9)
		if !slices.Equal(missing, []api.Span{{Lo: 3, Hi: 4}, {Lo: 6, Hi: 8}}) || e != api.OK {
			t.Error("R6:", missing, e)
		}
		spoil(missing, api.Span{Lo: -7})
		whole, e := book.Whole(l[:3], 3, digestABC)
		if !slices.Equal(whole, entries(a, b, c)) || e != api.OK || book.CheckPieces(l[:3]) != api.OK {
			t.Error("R6:", whole, e)
		}
		spoil(whole, spare)
	}
	if !equalPieces(l, kept) {
		t.Error("R6: an argument is changed:", l)
	}
	one, other := roomy(a, b, c), roomy(a, b)
	all := copies(one, other, other, nil, one, nil)
	for range 2 {
		most, e := book.Majority(all[:3])
		if !slices.Equal(most, entries(a, b)) || e != api.OK {
			t.Error("R6:", most, e)
		}
		spoil(most, spare)
		most, e = book.Majority(all[:1])
		if !slices.Equal(most, entries(a, b, c)) || e != api.OK {
			t.Error("R6:", most, e)
		}
		spoil(most, spare)
	}
	if !isKept(one, a, b, c) || !isKept(other, a, b) || len(all[3]) != 0 || !slices.Equal(all[4], one) || len(all[5]) != 0 {
		t.Error("R6: an argument is changed:", all)
	}
}

// TestAlike: the same is told each time (R7).
func TestAlike(t *testing.T) {
	c := chanceOf(91)
	for range 40 {
		l := c.book(c.from(1, api.MaxEntries))
		cut := c.pieces(l)
		at := c.IntN(len(l))
		root, _ := book.Root(l)
		p, _ := book.Stands(l, at)
		joined, _ := book.Join(cut)
		for range 5 {
			again, _ := book.Root(slices.Clone(l))
			q, _ := book.Stands(slices.Clone(l), at)
			also, _ := book.Join(clonePieces(cut))
			if root != again || !slices.Equal(p, q) || !equalPieces(joined, also) {
				t.Error("R7:", l, at, cut)
			}
		}
	}
}

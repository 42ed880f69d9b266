package book_test

import (
	"slices"
	"testing"

	"calx/api"
	"calx/book"
)

// pieceFaults are pieces, each with its first error.
func pieceFaults() []struct {
	l    []api.Piece
	want api.Errno
} {
	type fault = struct {
		l    []api.Piece
		want api.Errno
	}
	clash := pieces(piece(0, a), piece(0, b))
	many := slices.Repeat(pieces(piece(3, a)), api.MaxPieces+1)
	l := []fault{
		{many, api.ErrLimit}, {make([]api.Piece, 50000), api.ErrLimit}, {append(slices.Clone(many), clash...), api.ErrLimit},
		{make([]api.Piece, api.MaxPieces), api.ErrArg}, {pieces(piece(0)), api.ErrArg}, {pieces(piece(0, a), piece(1)), api.ErrArg},
		{pieces(piece(0, c, a)), api.ErrArg}, {pieces(piece(0, a, c, b)), api.ErrArg},
		{pieces(piece(0, plain(65)...)), api.ErrArg}, {pieces(piece(1, plain(64)...)), api.ErrArg}, {pieces(piece(64, a)), api.ErrArg}, {pieces(piece(63, a, b)), api.ErrArg}, {pieces(piece(0, make([]api.Entry, 5000)...)), api.ErrArg},
		{clash, api.ErrClash}, {pieces(piece(0, a), piece(0, entry(1, 0, 5, 11))), api.ErrClash}, {pieces(piece(0, a, b), piece(1, a)), api.ErrClash}, {pieces(piece(1, c), piece(0, a, b, c)), api.ErrClash},
		{pieces(piece(5, a), piece(4, c)), api.ErrClash}, {pieces(piece(4, c), piece(5, a)), api.ErrClash}, {pieces(piece(63, a), piece(0, c)), api.ErrClash}, {pieces(piece(0, a), piece(1, c), piece(2, b)), api.ErrClash},
		{pieces(piece(0, a, b), piece(3, c), piece(9, b, b)), api.ErrClash}, {pieces(piece(0, a), piece(5, b), piece(9, c), piece(5, a)), api.ErrClash},
		// What is wrong with one piece comes ahead of all that two tell.
		{append(slices.Clone(clash), piece(-1, a)), api.ErrArg}, {append(slices.Clone(clash), piece(7)), api.ErrArg}, {pieces(piece(5, a), piece(4, c), piece(0, b, c, a)), api.ErrArg},
	}
	for _, from := range list(-1, 64, 65, 1<<63-1, -1<<63) {
		l = append(l, fault{pieces(piece(from, a)), api.ErrArg}, fault{pieces(piece(0, a), piece(from, a, b)), api.ErrArg})
	}
	for _, x := range wrongEntries() {
		l = append(l, fault{pieces(piece(0, x)), api.ErrArg}, fault{pieces(piece(0, a), piece(1, b, x)), api.ErrArg}, fault{append(slices.Clone(many), piece(0, x)), api.ErrLimit})
	}
	return l
}

func TestCheckPieces(t *testing.T) {
	for i, x := range pieceFaults() {
		if e := book.CheckPieces(x.l); e != x.want {
			t.Error("P8.7:", i, e, x.l)
		}
		if l, e := book.Join(x.l); l != nil || e != x.want {
			t.Error("P8.7:", i, l, e)
		}
		for _, many := range list(1, -1, 65) {
			if l, e := book.Missing(x.l, many); l != nil || e != x.want {
				t.Error("P8.7:", i, many, l, e)
			}
			if l, e := book.Whole(x.l, many, -many); l != nil || e != x.want {
				t.Error("P8.8:", i, many, l, e)
			}
		}
	}
	for i, l := range [][]api.Piece{
		nil, {}, pieces(piece(0, a, b), piece(1, b, c)), pieces(piece(1, b, c), piece(0, a, b)), pieces(piece(63, c)), pieces(piece(0, plain(64)...)), pieces(piece(0, a), piece(0, a)),
		slices.Repeat(pieces(piece(0, plain(64)...)), api.MaxPieces), pieces(piece(5, b), piece(4, a), piece(9, b)), pieces(piece(62, a, c), piece(0, a)),
	} {
		if e := book.CheckPieces(l); e != api.OK {
			t.Error("P8.7:", i, l, e)
		}
	}
}

func TestJoin(t *testing.T) {
	for _, x := range []struct{ l, want []api.Piece }{
		{nil, nil}, {pieces(piece(0, a, b), piece(1, b, c)), pieces(piece(0, a, b, c))}, {pieces(piece(1, b, c), piece(0, a)), pieces(piece(0, a, b, c))},
		{pieces(piece(7, c)), pieces(piece(7, c))}, {pieces(piece(7, c), piece(7, c)), pieces(piece(7, c))}, {pieces(piece(7, c), piece(5, a)), pieces(piece(5, a), piece(7, c))},
		{pieces(piece(63, c), piece(0, a), piece(62, b)), pieces(piece(0, a), piece(62, b, c))}, {pieces(piece(0, a), piece(2, b), piece(4, c), piece(1, b), piece(3, c)), pieces(piece(0, a, b, b, c, c))},
		{pieces(piece(0, plain(64)...), piece(10, plain(64)[10:20]...)), pieces(piece(0, plain(64)...))},
		{pieces(piece(30, plain(64)[30:]...), piece(0, plain(29)...)), pieces(piece(0, plain(29)...), piece(30, plain(64)[30:]...))},
	} {
		if l, e := book.Join(x.l); !equalPieces(l, x.want) || e != api.OK {
			t.Error("P8.7:", x, l, e)
		}
	}
}

func TestMissing(t *testing.T) {
	span := func(lo, hi int) api.Span { return api.Span{Lo: lo, Hi: hi} }
	some := pieces(piece(5, b, c), piece(1, a, b), piece(2, b), piece(63, c))
	for _, x := range []struct {
		l    []api.Piece
		many int
		want []api.Span
	}{
		{pieces(piece(1, b)), 3, []api.Span{span(0, 0), span(2, 2)}}, {nil, 0, nil}, {nil, 1, []api.Span{span(0, 0)}}, {nil, 64, []api.Span{span(0, 63)}},
		{some, 0, nil}, {some, 1, []api.Span{span(0, 0)}}, {some, 2, []api.Span{span(0, 0)}}, {some, 3, []api.Span{span(0, 0)}}, {some, 4, []api.Span{span(0, 0), span(3, 3)}}, {some, 5, []api.Span{span(0, 0), span(3, 4)}},
		{some, 6, []api.Span{span(0, 0), span(3, 4)}}, {some, 8, []api.Span{span(0, 0), span(3, 4), span(7, 7)}}, {some, 64, []api.Span{span(0, 0), span(3, 4), span(7, 62)}},
		{pieces(piece(0, plain(64)...)), 64, nil}, {pieces(piece(0, plain(63)...)), 64, []api.Span{span(63, 63)}},
	} {
		if l, e := book.Missing(x.l, x.many); !slices.Equal(l, x.want) || e != api.OK {
			t.Error("P8.7:", x, l, e)
		}
	}
	for _, many := range list(-1, 65, 1<<63-1, -1<<63) {
		if l, e := book.Missing(some, many); l != nil || e != api.ErrArg {
			t.Error("P8.7:", many, l, e)
		}
	}
}

// TestPieces: Join has just the entries of all pieces, none twice; with Missing they are all of the book; nothing is told in more parts than it has to be.
func TestPieces(t *testing.T) {
	c := chanceOf(61)
	for range 1500 {
		l := c.book(c.from(0, api.MaxEntries))
		cut := c.pieces(l)
		var has [api.MaxEntries]bool
		for _, p := range cut {
			for i := range p.Entries {
				has[p.From+i] = true
			}
		}
		joined, e := book.Join(cut)
		if e != api.OK {
			t.Fatal("P8.15:", cut, e)
		}
		end := -1
		for _, p := range joined {
			if p.From <= end || len(p.Entries) == 0 {
				t.Error("P8.7: not as few, or not in order:", cut, joined)
			}
			end = p.From + len(p.Entries)
			for i, x := range p.Entries {
				if !has[p.From+i] || x != l[p.From+i] {
					t.Error("P8.15:", cut, joined)
				}
				has[p.From+i] = false
			}
		}
		if slices.Contains(has[:], true) {
			t.Error("P8.15: an entry is lost:", cut, joined)
		}
		checkMissing(t, l, cut, joined)
	}
}

// checkMissing checks that what is missing is all that joined pieces leave out.
func checkMissing(t *testing.T, l []api.Entry, cut, joined []api.Piece) {
	t.Helper()
	for _, many := range list(len(l), len(l)/2, api.MaxEntries) {
		var left [api.MaxEntries]bool
		for at := range many {
			left[at] = true
		}
		for _, p := range joined {
			for i := range p.Entries {
				left[p.From+i] = false
			}
		}
		missing, e := book.Missing(cut, many)
		if e != api.OK {
			t.Fatal("P8.7:", cut, e)
		}
		end := -1
		for _, s := range missing {
			if s.Lo <= end || s.Hi < s.Lo || s.Hi >= many {
				t.Error("P8.7: not as few, or not in order:", cut, many, missing)
			}
			end = s.Hi + 1
			for at := s.Lo; at <= min(s.Hi, api.MaxEntries-1); at++ {
				if !left[at] {
					t.Error("P8.15:", cut, many, missing)
				}
				left[at] = false
			}
		}
		if slices.Contains(left[:], true) {
			t.Error("P8.15: something else is missing:", cut, many, missing)
		}
		whole, e := book.Whole(cut, many, rootOf(l[:min(many, len(l))]))
		switch {
		case len(missing) > 0:
			if whole != nil || e != api.ErrNone {
				t.Error("P8.8:", cut, many, whole, e)
			}
		case !slices.Equal(whole, l[:many]) || e != api.OK:
			t.Error("P8.15:", cut, many, whole, e)
		}
	}
}

func TestWhole(t *testing.T) {
	some := pieces(piece(1, b, c), piece(0, a, b), piece(5, c))
	for _, x := range []struct {
		l          []api.Piece
		many, root int
		want       []api.Entry
		e          api.Errno
	}{
		{some, 0, nothing, nil, api.OK}, {some, 1, digestA, entries(a), api.OK}, {some, 2, digestAB, entries(a, b), api.OK}, {some, 3, digestABC, entries(a, b, c), api.OK},
		{nil, 0, nothing, nil, api.OK}, {nil, 0, digestA, nil, api.ErrProof}, {nil, 0, 1, nil, api.ErrProof}, {nil, 1, digestA, nil, api.ErrNone},
		{some, 4, digestABC, nil, api.ErrNone}, {some, 6, digestABC, nil, api.ErrNone}, {some, 64, 0, nil, api.ErrNone}, {some, 3, digestAB, nil, api.ErrProof}, {some, 2, digestABC, nil, api.ErrProof}, {some, 3, 0, nil, api.ErrProof}, {some, 3, last, nil, api.ErrProof},
		{some, -1, digestABC, nil, api.ErrArg}, {some, 65, digestABC, nil, api.ErrArg}, {some, 1<<63 - 1, digestABC, nil, api.ErrArg}, {some, -1 << 63, digestABC, nil, api.ErrArg},
		{pieces(piece(1, b)), 2, digestAB, nil, api.ErrNone}, {pieces(piece(63, b)), 1, digestB, nil, api.ErrNone},
		{pieces(piece(40, plain(64)[40:]...), piece(0, plain(40)...)), 64, rootOf(plain(64)), plain(64), api.OK}, {pieces(piece(0, plain(64)...)), 50, rootOf(plain(50)), plain(50), api.OK},
	} {
		if l, e := book.Whole(x.l, x.many, x.root); !slices.Equal(l, x.want) || e != x.e {
			t.Error("P8.8:", x, l, e)
		}
	}
	for _, d := range wrongDigests() {
		for _, many := range list(3, 4, 64) {
			if l, e := book.Whole(some, many, d); l != nil || e != api.ErrArg {
				t.Error("P8.8: ErrArg ahead of ErrNone:", many, d, l, e)
			}
		}
	}
}

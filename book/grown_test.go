package book_test

import (
	"slices"
	"testing"

	"calx/api"
	"calx/book"
)

func TestGrown(t *testing.T) {
	abc := entries(a, b, c)
	for _, x := range []struct {
		l     []api.Entry
		first int
		want  []api.Twig
	}{
		{abc, 2, twigs(twig(0, 2, digestAB), twig(2, 1, digestC))},
		{abc, 1, twigs(twig(0, 1, digestA), twig(1, 1, digestB), twig(2, 1, digestC))},
		{abc, 0, twigs(twig(0, 3, digestABC))}, {abc, 3, twigs(twig(0, 3, digestABC))},
		{nil, 0, twigs(twig(0, 0, nothing))}, {entries(a), 0, twigs(twig(0, 1, digestA))}, {entries(a), 1, twigs(twig(0, 1, digestA))},
		{entries(a, b), 1, twigs(twig(0, 1, digestA), twig(1, 1, digestB))},
	} {
		if p, e := book.Grown(x.l, x.first); !slices.Equal(p, x.want) || e != api.OK {
			t.Error("P8.4:", x, p, e)
		}
	}
	c := chanceOf(31)
	for many := range api.MaxEntries + 1 {
		l := c.book(many)
		for first := range many + 1 {
			p, e := book.Grown(l, first)
			if !slices.Equal(p, twigsAt(l, grownPlaces(many, first))) || e != api.OK {
				t.Error("P8.4:", l, first, p, e)
			}
			if e := book.CheckGrown(rootOf(l[:first]), first, rootOf(l), many, p); e != api.OK {
				t.Error("P8.12:", l, first, p, e)
			}
			end := 0
			for _, x := range p {
				if x.From != end {
					t.Error("P8.4: twigs do not follow each other:", many, first, p)
				}
				end += x.Long
			}
			if end != many {
				t.Error("P8.4: not to the length of the book:", many, first, p)
			}
		}
		for _, first := range list(-1, many+1, 1<<63-1, -1<<63) {
			if p, e := book.Grown(l, first); p != nil || e != api.ErrArg {
				t.Error("P8.4:", many, first, p, e)
			}
		}
	}
}

func TestCheckGrown(t *testing.T) {
	c := chanceOf(32)
	for many := range api.MaxEntries + 1 {
		for range 8 {
			l := c.book(many)
			first := c.from(0, many)
			before, root := rootOf(l[:first]), rootOf(l)
			p, _ := book.Grown(l, first)
			check := func(before, first, root, many int, p []api.Twig) {
				t.Helper()
				if e := book.CheckGrown(before, first, root, many, p); e != want(isGrown(before, first, root, many, p)) {
					t.Error("P8.4:", before, first, root, many, p, e)
				}
			}
			for _, q := range changedProofs(c, p) {
				if e := book.CheckGrown(before, first, root, many, q); e != api.ErrProof {
					t.Error("P8.4: a changed proof:", first, many, q, e)
				}
				check(before, first, root, many, q)
			}
			for _, d := range list((root+1)%last, 0, last, before, nothing) {
				check(before, first, d, many, p)
			}
			for _, d := range list((before+1)%last, 0, last, root, nothing) {
				check(d, first, root, many, p)
			}
			for other := range many + 1 {
				check(before, other, root, many, p)
				check(rootOf(l[:other]), other, root, many, p)
			}
			for other := first; other <= api.MaxEntries; other++ {
				check(before, first, root, other, p)
			}
		}
	}
}

// TestTold: the digests of twigs are taken as they are told.
func TestTold(t *testing.T) {
	c := chanceOf(33)
	for many := range api.MaxEntries + 1 {
		for first := range many + 1 {
			var p []api.Twig
			for _, x := range grownPlaces(many, first) {
				p = append(p, twig(x.from, x.long, c.digest()))
			}
			before := nothing
			if first > 0 {
				within := slices.DeleteFunc(slices.Clone(p), func(x api.Twig) bool { return x.From >= first })
				before = together(within)
			}
			if e := book.CheckGrown(before, first, together(p), many, p); e != api.OK {
				t.Error("P8.4:", first, many, p, e)
			}
		}
	}
	// Whatever is told of a book without entries, the digest of no first entries is that of the number 2.
	for _, x := range []struct {
		before, root int
		want         api.Errno
	}{{nothing, nothing, api.OK}, {nothing, 5, api.ErrProof}, {5, nothing, api.ErrProof}} {
		if e := book.CheckGrown(x.before, 0, x.root, 0, twigs(twig(0, 0, nothing))); e != x.want {
			t.Error("P8.4:", x, e)
		}
	}
	if e := book.CheckGrown(nothing, 0, 5, 0, twigs(twig(0, 0, 5))); e != api.OK {
		t.Error("P8.4:", e)
	}
	if e := book.CheckGrown(5, 0, 5, 0, twigs(twig(0, 0, 5))); e != api.ErrProof {
		t.Error("P8.4:", e)
	}
	if e := book.CheckGrown(nothing, 0, nothing, 0, nil); e != api.ErrProof {
		t.Error("P8.4:", e)
	}
	if e := book.CheckGrown(5, 0, 5, 3, twigs(twig(0, 3, 5))); e != api.ErrProof {
		t.Error("P8.4: the digest of no first entries:", e)
	}
}

func TestCheckGrownErrors(t *testing.T) {
	p := twigs(twig(0, 2, digestAB), twig(2, 1, digestC))
	for _, x := range []struct {
		name                      string
		before, first, root, many int
		p                         []api.Twig
		want                      api.Errno
	}{
		{"right", digestAB, 2, digestABC, 3, p, api.OK},
		{"fewer than none", digestAB, 0, digestABC, -1, p, api.ErrArg}, {"too many", digestAB, 2, digestABC, api.MaxEntries + 1, p, api.ErrArg}, {"far too many", digestAB, 2, digestABC, 1<<63 - 1, p, api.ErrArg},
		{"first less than none", digestAB, -1, digestABC, 3, p, api.ErrArg}, {"first more than many", digestAB, 4, digestABC, 3, p, api.ErrArg}, {"first far more", digestAB, 1<<63 - 1, digestABC, 3, p, api.ErrArg},
		{"all of many", digestAB, 64, digestABC, 64, p, api.ErrProof}, {"all of three", digestAB, 3, digestABC, 3, p, api.ErrProof}, {"none", digestAB, 0, digestABC, 0, p, api.ErrProof},
		{"no proof", digestAB, 2, digestABC, 3, nil, api.ErrProof}, {"many twigs", digestAB, 2, digestABC, 3, make([]api.Twig, 100000), api.ErrProof},
		{"a wrong digest behind many", digestAB, 2, digestABC, 3, append(make([]api.Twig, 100000), twig(0, 0, api.Modulus)), api.ErrArg},
		{"digests swapped", digestABC, 2, digestAB, 3, p, api.ErrProof},
	} {
		if e := book.CheckGrown(x.before, x.first, x.root, x.many, x.p); e != x.want {
			t.Errorf("P8.4: %s: %d, want %d", x.name, e, x.want)
		}
	}
	for _, d := range wrongDigests() {
		if e := book.CheckGrown(d, 2, digestABC, 3, p); e != api.ErrArg {
			t.Error("P8.4:", d, e)
		}
		if e := book.CheckGrown(digestAB, 2, d, 3, p); e != api.ErrArg {
			t.Error("P8.4:", d, e)
		}
		if e := book.CheckGrown(digestAB, 2, d, 3, nil); e != api.ErrArg {
			t.Error("P8.4: ErrArg ahead of ErrProof:", d, e)
		}
		for i := range p {
			q := changedTwig(p, i, func(x *api.Twig) { x.Digest = d })
			if e := book.CheckGrown(digestAB, 2, digestABC, 3, q); e != api.ErrArg {
				t.Error("P8.4:", q, e)
			}
			q[0].From = 7
			if e := book.CheckGrown(digestAB, 2, digestABC, 3, q); e != api.ErrArg {
				t.Error("P8.4: ErrArg ahead of ErrProof:", q, e)
			}
		}
	}
}

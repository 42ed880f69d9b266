package book_test

import (
	"slices"
	"testing"

	"calx/api"
	"calx/book"
)

// TestTheorem: what is proved stands in every book that goes on, or two different things are shown that have the same digest (T8).
func TestTheorem(t *testing.T) {
	c := chanceOf(101)
	for range 400 {
		whole := c.book(c.from(1, api.MaxEntries))
		first := c.from(1, len(whole))
		l := whole[:first]
		at := c.IntN(first)
		before, _ := book.Root(l)
		root, _ := book.Root(whole)
		p, _ := book.Stands(l, at)
		grown, _ := book.Grown(whole, first)
		if e := book.CheckGrown(before, first, root, len(whole), grown); e != api.OK {
			t.Fatal("T8:", e)
		}
		if e := book.CheckStands(before, first, at, l[at], p); e != api.OK {
			t.Fatal("T8:", e)
		}
		// Whoever knows the digests alone finds the same entry proved of both books.
		later, _ := book.Stands(whole, at)
		if e := book.CheckStands(root, len(whole), at, l[at], later); e != api.OK {
			t.Error("T8:", whole, first, at, e)
		}
		if len(p) > 0 {
			x := c.entry(c.from(0, api.MaxDay))
			checkGap(t, l, at, x, forged(l, at, x, p, c.IntN(len(p))))
		}
	}
}

// TestOther: a book that did not only go on has no proof that it did: of the digests of both, no right twigs are accepted.
func TestOther(t *testing.T) {
	c := chanceOf(102)
	for range 300 {
		whole := c.book(c.from(2, api.MaxEntries))
		first := c.from(1, len(whole))
		l := slices.Clone(whole[:first])
		at := c.IntN(first)
		l[at].Sum = (l[at].Sum + c.from(1, 1000)) % (api.MaxSum + 1)
		other := append(slices.Clone(l), whole[first:]...)
		for _, m := range [][]api.Entry{whole, other} {
			p, _ := book.Grown(m, first)
			if e := book.CheckGrown(rootOf(whole[:first]), first, rootOf(other), len(whole), p); e != api.ErrProof {
				t.Error("P8.12:", whole, l, first, e)
			}
			if e := book.CheckGrown(rootOf(l), first, rootOf(whole), len(whole), p); e != api.ErrProof {
				t.Error("P8.12:", whole, l, first, e)
			}
		}
	}
}

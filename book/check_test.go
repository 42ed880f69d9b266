package book_test

import (
	"testing"

	"calx/api"
	"calx/book"
)

// faults are entries that are no book, each with its first error.
func faults() []struct {
	l    []api.Entry
	want api.Errno
} {
	type fault = struct {
		l    []api.Entry
		want api.Errno
	}
	var l []fault
	for _, x := range wrongEntries() {
		l = append(l, fault{entries(x), api.ErrArg}, fault{entries(a, x), api.ErrArg}, fault{entries(x, c), api.ErrArg}, fault{append(plain(api.MaxEntries-1), x), api.ErrArg})
	}
	return append(l,
		fault{entries(c, a), api.ErrArg}, fault{entries(a, c, b), api.ErrArg}, fault{entries(entry(1, 0, 0, 0), entry(0, 0, 0, 0)), api.ErrArg},
		fault{append(plain(api.MaxEntries-1), a), api.ErrArg},
		fault{plain(api.MaxEntries + 1), api.ErrLimit}, fault{plain(200), api.ErrLimit}, fault{make([]api.Entry, 100000), api.ErrLimit},
		// The limit comes ahead of all entries.
		fault{append(wrongEntries()[:1:1], plain(api.MaxEntries)...), api.ErrLimit}, fault{append(plain(api.MaxEntries), wrongEntries()[0]), api.ErrLimit}, fault{append(plain(api.MaxEntries), a), api.ErrLimit})
}

func TestCheck(t *testing.T) {
	for i, x := range faults() {
		if e := book.Check(x.l); e != x.want {
			t.Error("P8.1:", i, e, x.l)
		}
	}
	for i, l := range [][]api.Entry{
		nil, {}, {a}, {a, b, c}, {b, a, c}, {a, a, a}, plain(api.MaxEntries), make([]api.Entry, api.MaxEntries),
		{entry(0, 0, 0, 0), entry(api.MaxDay, 9, api.MaxWho, api.MaxSum), entry(api.MaxDay, 0, 0, 0)},
	} {
		if e := book.Check(l); e != api.OK {
			t.Error("P8.1:", i, e, l)
		}
	}
}

func TestDigest(t *testing.T) {
	for _, x := range []struct {
		l    []int
		want int
	}{
		{nil, 1}, {list(), 1}, {list(2), nothing}, {list(0), 1000004}, {list(0, 1, 0, 5, 10), digestA}, {list(1, 2, digestA, digestB), digestAB},
		{list(0, 0, 0, 0, 0, 0, 0, 0), 1108381940}, {list(last, last, last, last, last, last, last, last), 1544709545}, {list(api.Modulus - api.Base), 1},
	} {
		if d, e := book.Digest(x.l); d != x.want || e != api.OK {
			t.Error("P8.1:", x, d, e)
		}
	}
	c := chanceOf(1)
	for range 2000 {
		l := make([]int, c.from(0, 8))
		for i := range l {
			l[i] = []int{0, last, c.digest(), c.from(0, 20)}[c.IntN(4)]
		}
		if d, e := book.Digest(l); d != digestOfNumbers(l...) || e != api.OK {
			t.Error("P8.1:", l, d, e)
		}
	}
	for at := range 8 {
		for _, n := range wrongDigests() {
			l := make([]int, 8)
			l[at] = n
			if d, e := book.Digest(l); d != 0 || e != api.ErrArg {
				t.Error("P8.1:", l, d, e)
			}
			if d, e := book.Digest(l[:at+1]); d != 0 || e != api.ErrArg {
				t.Error("P8.1:", l, d, e)
			}
			if d, e := book.Digest(append(l, 0)); d != 0 || e != api.ErrLimit {
				t.Error("P8.1: the limit first:", l, d, e)
			}
		}
	}
	for _, l := range [][]int{make([]int, 9), make([]int, 100000)} {
		if d, e := book.Digest(l); d != 0 || e != api.ErrLimit {
			t.Error("P8.1:", len(l), d, e)
		}
	}
}

func TestLeaf(t *testing.T) {
	for _, x := range []struct {
		x    api.Entry
		want int
	}{{a, digestA}, {b, digestB}, {c, digestC}} {
		if d, e := book.Leaf(x.x); d != x.want || e != api.OK {
			t.Error("P8.1:", x, d, e)
		}
	}
	c := chanceOf(2)
	for range 1000 {
		x := c.entry(c.from(0, api.MaxDay))
		if d, e := book.Leaf(x); d != leafOf(x) || e != api.OK {
			t.Error("P8.1:", x, d, e)
		}
	}
	for _, x := range entries(api.Entry{}, entry(api.MaxDay, 9, api.MaxWho, api.MaxSum)) {
		if d, e := book.Leaf(x); d != leafOf(x) || e != api.OK {
			t.Error("P8.1:", x, d, e)
		}
	}
	for _, x := range wrongEntries() {
		if d, e := book.Leaf(x); d != 0 || e != api.ErrArg {
			t.Error("P8.1:", x, d, e)
		}
	}
}

func TestNode(t *testing.T) {
	c := chanceOf(3)
	for long := 2; long <= api.MaxEntries; long++ {
		for _, x := range [][2]int{{0, 0}, {0, last}, {last, 0}, {last, last}, {c.digest(), c.digest()}} {
			if d, e := book.Node(long, x[0], x[1]); d != digestOfNumbers(1, long, x[0], x[1]) || e != api.OK {
				t.Error("P8.1:", long, x, d, e)
			}
		}
	}
	if d, e := book.Node(2, digestA, digestB); d != digestAB || e != api.OK {
		t.Error("P8.1:", d, e)
	}
	if d, e := book.Node(3, digestAB, digestC); d != digestABC || e != api.OK {
		t.Error("P8.1:", d, e)
	}
	for _, long := range list(1, 0, -1, api.MaxEntries+1, 1<<63-1, -1<<63) {
		if d, e := book.Node(long, 5, 6); d != 0 || e != api.ErrArg {
			t.Error("P8.1:", long, d, e)
		}
	}
	for _, n := range wrongDigests() {
		if d, e := book.Node(2, n, 6); d != 0 || e != api.ErrArg {
			t.Error("P8.1:", n, d, e)
		}
		if d, e := book.Node(2, 5, n); d != 0 || e != api.ErrArg {
			t.Error("P8.1:", n, d, e)
		}
	}
}

// answer is what a function answers: its error, and whether all else is zero.
type answer struct {
	e      api.Errno
	isZero bool
}

// answersOf returns what all functions of one book answer to right arguments, or to wrong ones.
func answersOf(l []api.Entry, isRight bool) map[string]answer {
	at, day, x := 0, 1, a
	if !isRight {
		at, day, x = -1, -1, wrongEntries()[0]
	}
	all := map[string]answer{}
	root, e := book.Root(l)
	all["Root"] = answer{e, root == 0}
	part, e := book.Part(l, at, at)
	all["Part"] = answer{e, part == 0}
	stands, e := book.Stands(l, at)
	all["Stands"] = answer{e, stands == nil}
	grown, e := book.Grown(l, at)
	all["Grown"] = answer{e, grown == nil}
	g, found, e := book.Gap(l, at, x, nil)
	all["Gap"] = answer{e, g.A == nil && g.B == nil && !found}
	known, e := book.Known(l, day)
	all["Known"] = answer{e, known == 0}
	total, e := book.Total(l, at, 1, day)
	all["Total"] = answer{e, total == 0}
	return all
}

// TestErrorsFirst: the error of a book comes first, and all else is zero then (R3, R4).
func TestErrorsFirst(t *testing.T) {
	for _, f := range faults() {
		for _, isRight := range []bool{true, false} {
			for name, x := range answersOf(f.l, isRight) {
				if x != (answer{f.want, true}) {
					t.Error("P8.1:", name, x, f)
				}
			}
		}
		for _, x := range [][3][]api.Entry{{f.l, plain(3), nil}, {plain(3), f.l, nil}, {f.l, faults()[0].l, nil}, {f.l, make([]api.Entry, 999), nil}} {
			want := f.want
			if at, p, q, parted, e := book.Fork(x[0], x[1]); at != 0 || p != nil || q != nil || parted || e != want {
				t.Error("P8.5:", x, at, p, q, parted, e)
			}
			if at, looks, parted, e := book.Compare(x[0], x[1]); at != 0 || looks != 0 || parted || e != want {
				t.Error("P8.5:", x, at, looks, parted, e)
			}
		}
	}
	for name, x := range answersOf(plain(3), false) {
		if name != "Root" && x != (answer{api.ErrArg, true}) {
			t.Error("P8.1:", name, x)
		}
	}
	for name, x := range answersOf(plain(3), true) {
		if x.e != api.OK {
			t.Error("P8.1:", name, x)
		}
	}
}

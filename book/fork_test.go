package book_test

import (
	"slices"
	"testing"

	"calx/api"
	"calx/book"
)

// checkFork checks what Fork tells of two books that part at an index, or do not.
func checkFork(t *testing.T, l, m []api.Entry, want int, parts bool) {
	t.Helper()
	at, p, q, parted, e := book.Fork(l, m)
	if at != want || parted != parts || e != api.OK {
		t.Error("P8.5:", l, m, at, parted, e)
		return
	}
	if !parts {
		if p != nil || q != nil {
			t.Error("P8.5: proofs of nothing:", p, q)
		}
		if both := min(len(l), len(m)); at != both || !slices.Equal(l[:both], m[:both]) {
			t.Error("P8.13:", l, m, at)
		}
		return
	}
	if !slices.Equal(p, twigsAt(l, standPlaces(len(l), at))) || !slices.Equal(q, twigsAt(m, standPlaces(len(m), at))) {
		t.Error("P8.5:", l, m, p, q)
	}
	if e := book.CheckStands(rootOf(l), len(l), at, l[at], p); e != api.OK {
		t.Error("P8.13:", l, at, p, e)
	}
	if e := book.CheckStands(rootOf(m), len(m), at, m[at], q); e != api.OK {
		t.Error("P8.13:", m, at, q, e)
	}
}

// parting returns two books that begin alike, and the index at which they part, if they do.
func (c chance) parting() ([]api.Entry, []api.Entry, int, bool) {
	l, m := c.book(c.from(0, api.MaxEntries)), c.book(c.from(0, api.MaxEntries))
	alike := c.from(0, min(len(l), len(m)))
	if c.IntN(3) == 0 {
		alike = min(len(l), len(m))
	}
	copy(m, l[:alike])
	for i := range m {
		m[i].Day = max(m[i].Day, m[max(i-1, 0)].Day)
	}
	both := min(len(l), len(m))
	for at := range both {
		if l[at] != m[at] {
			return l, m, at, true
		}
	}
	return l, m, both, false
}

func TestFork(t *testing.T) {
	at, p, q, parted, e := book.Fork(entries(a, b, c), entries(a, c))
	if at != 1 || !slices.Equal(p, twigs(twig(0, 1, digestA), twig(2, 1, digestC))) || !slices.Equal(q, twigs(twig(0, 1, digestA))) || !parted || e != api.OK {
		t.Error("P8.5:", at, p, q, parted, e)
	}
	for _, x := range []struct {
		l, m  []api.Entry
		at    int
		parts bool
	}{
		{nil, nil, 0, false}, {nil, entries(a), 0, false}, {entries(a), nil, 0, false}, {entries(a), entries(a), 1, false}, {entries(a), entries(b), 0, true},
		{entries(a, b), entries(a, b, c), 2, false}, {entries(a, b, c), entries(a, b), 2, false}, {entries(a, b, c), entries(a, b, c), 3, false}, {entries(b, b, c), entries(a, b), 0, true},
		{entries(a), entries(b, b, c), 0, true}, {plain(64), changedAt(plain(64), 63, entry(600, 0, 0, 0)), 63, true}, {plain(64), plain(64), 64, false}, {plain(64), plain(63), 63, false},
	} {
		checkFork(t, x.l, x.m, x.at, x.parts)
	}
	c := chanceOf(41)
	count := 0
	for range 600 {
		l, m, at, parts := c.parting()
		checkFork(t, l, m, at, parts)
		if parts {
			count++
		}
	}
	if count < 200 || count > 500 {
		t.Error("too few books of a sort:", count)
	}
}

// compared returns what comparing digests of two lists leads to, and how many pairs of trees are compared.
func compared(l, m []api.Entry) (int, int, bool) {
	if rootOf(l) == rootOf(m) {
		return len(l), 1, false
	}
	at, looks := 0, 1
	for len(l) > 1 {
		half := halfOf(len(l))
		looks++
		if rootOf(l[:half]) != rootOf(m[:half]) {
			l, m = l[:half], m[:half]
		} else {
			at += half
			l, m = l[half:], m[half:]
		}
	}
	return at, looks, true
}

func checkCompare(t *testing.T, l, m []api.Entry) {
	t.Helper()
	at, looks, parted, e := book.Compare(l, m)
	wantAt, wantLooks, want := compared(l, m)
	if at != wantAt || looks != wantLooks || parted != want || e != api.OK {
		t.Error("P8.5:", l, m, at, looks, parted, e)
	}
	if looks > 7 {
		t.Error("P8.13:", l, m, looks)
	}
}

func TestCompare(t *testing.T) {
	for _, x := range []struct {
		l, m      []api.Entry
		at, looks int
		parts     bool
	}{
		{entries(a, b, c), entries(a, b, entry(3, 0, 6, 8)), 2, 2, true}, {entries(a), entries(a), 1, 1, false}, {entries(a), entries(b), 0, 1, true},
		{entries(a, b, c), entries(a, b, c), 3, 1, false}, {entries(a, b, c), entries(b, b, c), 0, 3, true}, {entries(a, b, c), entries(a, a, c), 1, 3, true},
		{plain(64), changedAt(plain(64), 63, entry(600, 0, 0, 0)), 63, 7, true}, {plain(64), plain(64), 64, 1, false}, {plain(33), changedAt(plain(33), 32, entry(600, 0, 0, 0)), 32, 2, true},
	} {
		if at, looks, parted, e := book.Compare(x.l, x.m); at != x.at || looks != x.looks || parted != x.parts || e != api.OK {
			t.Error("P8.5:", x, at, looks, parted, e)
		}
	}
	c := chanceOf(42)
	for many := 1; many <= api.MaxEntries; many++ {
		l := c.book(many)
		checkCompare(t, l, l)
		for range 10 {
			at := c.IntN(many)
			x := l[at]
			x.Sum = (x.Sum + c.from(1, api.MaxSum)) % (api.MaxSum + 1)
			m := changedAt(l, at, x)
			if other := c.IntN(many); other > at && c.IntN(2) == 0 {
				m[other].Who = c.from(0, api.MaxWho)
			}
			checkCompare(t, l, m)
			// No two of these trees have the same digest by chance, so the index is that of Fork.
			if got, _, parted, _ := book.Compare(l, m); got != at || !parted {
				t.Error("P8.13:", l, m, got)
			}
			checkFork(t, l, m, at, true)
		}
	}
}

// TestCompareErrors: books of different lengths, and such without entries, come behind the errors of both.
func TestCompareErrors(t *testing.T) {
	for _, x := range [][2][]api.Entry{{nil, nil}, {entries(), entries()}, {entries(a), nil}, {nil, entries(a)}, {entries(a), entries(a, b)}, {entries(a, b, c), entries(a, b)}, {plain(64), plain(63)}} {
		if at, looks, parted, e := book.Compare(x[0], x[1]); at != 0 || looks != 0 || parted || e != api.ErrArg {
			t.Error("P8.5:", x, at, looks, parted, e)
		}
	}
	for _, x := range []struct {
		l, m []api.Entry
		want api.Errno
	}{{nil, plain(65), api.ErrLimit}, {plain(65), entries(c, a), api.ErrLimit}, {entries(c, a), plain(65), api.ErrArg}} {
		if _, _, _, e := book.Compare(x.l, x.m); e != x.want {
			t.Error("P8.5:", x, e)
		}
		if _, _, _, _, e := book.Fork(x.l, x.m); e != x.want {
			t.Error("P8.5:", x, e)
		}
	}
}

// TestCompareAlike: digests alone are looked at, also where those of different entries are the same.
func TestCompareAlike(t *testing.T) {
	x, y := entry(1, 0, 5, 2000000), entry(1, 0, 6, 999997)
	if leafOf(x) != leafOf(y) {
		t.Fatal("two entries with different digests")
	}
	for _, k := range []struct {
		l, m      []api.Entry
		at, looks int
		parts     bool
	}{
		{entries(x), entries(y), 1, 1, false}, {entries(x, b, c), entries(y, b, c), 3, 1, false}, {entries(x, b, c), entries(y, a, c), 1, 3, true},
		{entries(x, b, c), entries(y, b, entry(3, 0, 6, 8)), 2, 2, true}, {entries(x, y, x), entries(y, x, y), 3, 1, false}, {entries(a, x, c), entries(b, y, c), 0, 3, true},
	} {
		if at, looks, parted, e := book.Compare(k.l, k.m); at != k.at || looks != k.looks || parted != k.parts || e != api.OK {
			t.Error("P8.5:", k, at, looks, parted, e)
		}
	}
	checkFork(t, entries(x, b, c), entries(y, b, c), 0, true)
	c := chanceOf(43)
	alike := 0
	for range 400 {
		l := c.book(c.from(1, api.MaxEntries))
		m := slices.Clone(l)
		for at := range l {
			other, found := same(l[at])
			switch {
			case found && c.IntN(2) == 0:
				m[at] = other
				alike++
			case c.IntN(30) == 0:
				m[at].Kind = 9 - m[at].Kind
			}
		}
		checkCompare(t, l, m)
	}
	if alike < 1000 {
		t.Error("too few entries with the same digest:", alike)
	}
}

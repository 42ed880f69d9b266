package book_test

import (
	"slices"
	"testing"

	"calx/api"
	"calx/book"
)

func equalGaps(g, h api.Gap) bool { return slices.Equal(g.A, h.A) && slices.Equal(g.B, h.B) }

// checkGap checks that a proof is accepted, and that the gap is told that it makes.
func checkGap(t *testing.T, l []api.Entry, at int, x api.Entry, p []api.Twig) {
	t.Helper()
	if e := book.CheckStands(rootOf(l), len(l), at, x, p); e != api.OK {
		t.Fatal("P8.3: a forged proof is not accepted:", l, at, x, p, e)
	}
	want, isOne := gapOf(l, at, x, p)
	g, found, e := book.Gap(l, at, x, p)
	if !isOne || !equalGaps(g, want) || !found || e != api.OK {
		t.Error("P8.6:", l, at, x, p, g, found, e, want)
	}
	if e := book.CheckGap(g); e != api.OK {
		t.Error("P8.11:", g, e)
	}
}

// checkNoGap checks that there is none.
func checkNoGap(t *testing.T, l []api.Entry, at int, x api.Entry, p []api.Twig) {
	t.Helper()
	if g, found, e := book.Gap(l, at, x, p); g.A != nil || g.B != nil || found || e != api.OK {
		t.Error("P8.6:", l, at, x, p, g, found, e)
	}
}

// TestGap: whatever else is accepted for the digest of a book shows a gap, at each height.
func TestGap(t *testing.T) {
	c := chanceOf(51)
	for many := 1; many <= api.MaxEntries; many++ {
		l := c.book(many)
		for range 4 {
			at := c.IntN(many)
			right, _ := book.Stands(l, at)
			checkNoGap(t, l, at, l[at], right)
			if x, found := same(l[at]); found {
				checkGap(t, l, at, x, right)
			}
			for height := range right {
				x := c.entry(c.from(0, api.MaxDay))
				checkGap(t, l, at, x, forged(l, at, x, right, height))
				// The entry is right, but not the twigs: those below a height are whatever one likes, and further ones above it make another gap.
				p := slices.Clone(right)
				for i := range height {
					if c.IntN(2) == 0 {
						p[i].Digest = c.digest()
					}
				}
				if height > 0 {
					p[c.IntN(height)].Digest = c.digest()
					checkGap(t, l, at, l[at], forged(l, at, l[at], p, height))
					checkGap(t, l, at, x, forged(l, at, x, p, height))
				}
			}
		}
	}
}

// TestGapByHand: the lists of a gap are those of the twigs, and then of the book.
func TestGapByHand(t *testing.T) {
	l := entries(entry(1, 0, 5, 2000000), b, c)
	right, _ := book.Stands(l, 0)
	y := entry(1, 0, 6, 999997)
	g, found, e := book.Gap(l, 0, y, right)
	if !found || e != api.OK || !equalGaps(g, api.Gap{A: list(0, 1, 0, 6, 999997), B: list(0, 1, 0, 5, 2000000)}) {
		t.Error("P8.6:", g, found, e)
	}
	// The entry's own gap comes ahead of those of the halvings.
	checkGap(t, l, 0, y, right)
	l = entries(a, b, c)
	right, _ = book.Stands(l, 1)
	p := twigs(twig(0, 1, completed(list(1, 2, 0, leafOf(c)), 2, digestAB)), right[1])
	g, found, e = book.Gap(l, 1, c, p)
	if !found || e != api.OK || !equalGaps(g, api.Gap{A: list(1, 2, p[0].Digest, digestC), B: list(1, 2, digestA, digestB)}) {
		t.Error("P8.6:", g, found, e)
	}
	below := digestOfNumbers(1, 2, digestA, digestC)
	p = twigs(right[0], twig(2, 1, completed(list(1, 3, below, 0), 3, digestABC)))
	g, found, e = book.Gap(l, 1, c, p)
	if !found || e != api.OK || !equalGaps(g, api.Gap{A: list(1, 3, below, p[1].Digest), B: list(1, 3, digestAB, digestC)}) {
		t.Error("P8.6:", g, found, e)
	}
	below = digestOfNumbers(1, 2, 77, digestB)
	p = twigs(twig(0, 1, 77), twig(2, 1, completed(list(1, 3, below, 0), 3, digestABC)))
	g, found, e = book.Gap(l, 1, b, p)
	if !found || e != api.OK || !equalGaps(g, api.Gap{A: list(1, 3, below, p[1].Digest), B: list(1, 3, digestAB, digestC)}) {
		t.Error("P8.6: only the twigs are others:", g, found, e)
	}
}

// TestNoGap: what is not accepted shows nothing.
func TestNoGap(t *testing.T) {
	c := chanceOf(52)
	for range 300 {
		l := c.book(c.from(1, api.MaxEntries))
		at := c.IntN(len(l))
		right, _ := book.Stands(l, at)
		for _, p := range changedProofs(c, right) {
			checkNoGap(t, l, at, l[at], p)
		}
		checkNoGap(t, l, at, entry(l[at].Day, l[at].Kind, l[at].Who, (l[at].Sum+1)%api.MaxSum), right)
		// Two entries have the same digest, or two halvings, but what comes of the whole proof is another digest.
		if x, found := same(l[at]); found {
			for _, p := range changedProofs(c, right) {
				checkNoGap(t, l, at, x, p)
			}
		}
		if len(right) > 1 {
			x := c.entry(c.from(0, api.MaxDay))
			height := c.IntN(len(right) - 1)
			p := forged(l, at, x, right, height)
			above := c.from(height+1, len(right)-1)
			checkNoGap(t, l, at, x, changedTwig(p, above, func(y *api.Twig) { y.Digest = (y.Digest + 1) % last }))
			checkNoGap(t, l, at, x, changedTwig(p, above, func(y *api.Twig) { y.From++ }))
		}
	}
}

func TestGapErrors(t *testing.T) {
	l := entries(a, b, c)
	right, _ := book.Stands(l, 1)
	check := func(name string, l []api.Entry, at int, x api.Entry, p []api.Twig, want api.Errno) {
		t.Helper()
		if g, found, e := book.Gap(l, at, x, p); g.A != nil || g.B != nil || found || e != want {
			t.Error("P8.6:", name, g, found, e)
		}
	}
	check("right", l, 1, b, right, api.OK)
	for _, at := range list(-1, 3, 1<<63-1, -1<<63) {
		check("no index", l, at, b, right, api.ErrArg)
	}
	check("no entries", nil, 0, b, right, api.ErrArg)
	check("no entries", entries(), 0, b, nil, api.ErrArg)
	for _, x := range wrongEntries() {
		check("a wrong entry", l, 1, x, right, api.ErrArg)
		check("a wrong entry", l, 1, x, nil, api.ErrArg)
	}
	for _, d := range wrongDigests() {
		for i := range right {
			p := changedTwig(right, i, func(x *api.Twig) { x.Digest = d })
			check("a wrong digest", l, 1, b, p, api.ErrArg)
			p[i].Long = 0
			check("a wrong digest", l, 1, b, p, api.ErrArg)
			check("the book first", plain(65), 1, b, p, api.ErrLimit)
		}
	}
	check("many twigs", l, 1, b, make([]api.Twig, 100000), api.OK)
}

func TestCheckGap(t *testing.T) {
	alike := api.Modulus - api.Base
	eight := list(0, 1, 2, 3, 4, 5, 6, 7)
	zero := completed(list(0), 0, 0)
	also := append(eight[:6:6], 7, 7-api.Base+api.Modulus)
	for _, x := range []struct {
		name string
		g    api.Gap
		want api.Errno
	}{
		{"nothing and one number", api.Gap{A: nil, B: list(alike)}, api.OK}, {"one number and nothing", api.Gap{A: list(alike), B: list()}, api.OK},
		{"an entry", api.Gap{A: list(0, 1, 0, 6, 999997), B: list(0, 1, 0, 5, 2000000)}, api.OK}, {"eight numbers", api.Gap{A: eight, B: also}, api.OK},
		{"numbers of which none is of an entry", api.Gap{A: list(0, 0, 1, last-api.Base+1), B: list(0, 0, 2, last-2*api.Base+1)}, api.OK},
		{"more numbers", api.Gap{A: list(1), B: list(alike, 1)}, api.OK},
		{"nothing", api.Gap{}, api.ErrProof}, {"nothing twice", api.Gap{A: list(), B: nil}, api.ErrProof}, {"the same", api.Gap{A: eight, B: slices.Clone(eight)}, api.ErrProof},
		{"another digest", api.Gap{A: list(1), B: list(2)}, api.ErrProof}, {"another digest of eight", api.Gap{A: eight, B: append(also[:7:7], also[7]+1)}, api.ErrProof},
		{"a number below", api.Gap{A: list(0, 0), B: list(1, -api.Base)}, api.ErrProof}, {"a number below, first", api.Gap{A: list(1, -api.Base), B: list(0, 0)}, api.ErrProof},
		{"a number above", api.Gap{A: list(0), B: list(api.Modulus)}, api.ErrProof}, {"a number above, first", api.Gap{A: list(api.Modulus), B: list(0)}, api.ErrProof},
		{"the least and the greatest", api.Gap{A: list(-1 << 63), B: list(1<<63 - 1)}, api.ErrProof},
		{"nine numbers", api.Gap{A: list(1), B: append(list(alike), append(make([]int, 0), 1, 1, 1, 1, 1, 1, 1, 1)...)}, api.ErrProof},
		{"nine and eight", api.Gap{A: append(list(alike), eight...), B: eight}, api.ErrProof}, {"eight and nine", api.Gap{A: eight, B: append(list(alike), eight...)}, api.ErrProof},
		{"nine twice", api.Gap{A: append(list(1), eight...), B: append(list(1), also...)}, api.ErrProof},
		{"the digest 0, and a number below", api.Gap{A: list(zero), B: list(-1)}, api.ErrProof}, {"a number below, and the digest 0", api.Gap{A: list(-1), B: list(zero)}, api.ErrProof},
		{"the digest 0, and nine numbers", api.Gap{A: list(zero), B: make([]int, 9)}, api.ErrProof}, {"nine numbers, and the digest 0", api.Gap{A: make([]int, 9), B: list(zero)}, api.ErrProof},
		{"numbers above and below", api.Gap{A: list(api.Modulus), B: list(-1)}, api.ErrProof}, {"the digest 0 twice", api.Gap{A: list(zero), B: list(0, completed(list(0, 0), 1, 0))}, api.OK},
		{"many", api.Gap{A: make([]int, 100000), B: make([]int, 100001)}, api.ErrProof},
	} {
		if e := book.CheckGap(x.g); e != x.want {
			t.Errorf("P8.6: %s: %d, want %d", x.name, e, x.want)
		}
	}
	c := chanceOf(53)
	for range 1000 {
		l := make([]int, c.from(1, 8))
		for i := range l {
			l[i] = c.digest()
		}
		m := slices.Clone(l)
		at := c.IntN(len(l))
		m[c.IntN(len(l))] = c.digest()
		m[at] = completed(m, at, digestOfNumbers(l...))
		if e := book.CheckGap(api.Gap{A: l, B: m}); e != want(!slices.Equal(l, m)) {
			t.Error("P8.6:", l, m, e)
		}
		m[at] = (m[at] + 1) % last
		if e := book.CheckGap(api.Gap{A: l, B: m}); e != api.ErrProof {
			t.Error("P8.6:", l, m, e)
		}
	}
}

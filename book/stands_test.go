package book_test

import (
	"slices"
	"testing"

	"calx/api"
	"calx/book"
)

func TestStands(t *testing.T) {
	for _, x := range []struct {
		l    []api.Entry
		at   int
		want []api.Twig
	}{
		{entries(a), 0, nil},
		{entries(a, b), 0, twigs(twig(1, 1, digestB))}, {entries(a, b), 1, twigs(twig(0, 1, digestA))},
		{entries(a, b, c), 0, twigs(twig(1, 1, digestB), twig(2, 1, digestC))},
		{entries(a, b, c), 1, twigs(twig(0, 1, digestA), twig(2, 1, digestC))},
		{entries(a, b, c), 2, twigs(twig(0, 2, digestAB))},
	} {
		if p, e := book.Stands(x.l, x.at); !slices.Equal(p, x.want) || e != api.OK {
			t.Error("P8.3:", x, p, e)
		}
	}
	c := chanceOf(21)
	for many := range api.MaxEntries + 1 {
		l := c.book(many)
		for at := range many {
			p, e := book.Stands(l, at)
			if !slices.Equal(p, twigsAt(l, standPlaces(many, at))) || e != api.OK {
				t.Error("P8.3:", l, at, p, e)
			}
			if e := book.CheckStands(rootOf(l), many, at, l[at], p); e != api.OK {
				t.Error("P8.11:", l, at, p, e)
			}
		}
		for _, at := range list(-1, many, many+1, 1<<63-1, -1<<63) {
			if p, e := book.Stands(l, at); p != nil || e != api.ErrArg {
				t.Error("P8.3:", many, at, p, e)
			}
		}
	}
}

// changedProofs returns proofs that are like one, but for something.
func changedProofs(c chance, p []api.Twig) [][]api.Twig {
	l := [][]api.Twig{append(slices.Clone(p), twig(0, 1, 5)), append(twigs(twig(0, 1, 5)), p...), append(slices.Clone(p), api.Twig{}), make([]api.Twig, 5000)}
	if len(p) == 0 {
		return l
	}
	i := c.IntN(len(p))
	l = append(l, nil, p[1:], p[:len(p)-1], slices.Delete(slices.Clone(p), i, i+1), slices.Insert(slices.Clone(p), i, p[i]))
	if len(p) > 1 {
		turned := slices.Clone(p)
		slices.Reverse(turned)
		swapped := slices.Clone(p)
		swapped[0], swapped[len(p)-1] = swapped[len(p)-1], swapped[0]
		l = append(l, turned, swapped)
	}
	for _, by := range list(-1, 1, 64, 1<<40) {
		l = append(l,
			changedTwig(p, i, func(x *api.Twig) { x.From += by }),
			changedTwig(p, i, func(x *api.Twig) { x.Long += by }),
			changedTwig(p, i, func(x *api.Twig) { x.From, x.Long = x.From+by, x.Long-by }),
			changedTwig(p, i, func(x *api.Twig) { x.Digest = (x.Digest + by%last + last) % last }))
	}
	l = append(l,
		changedTwig(p, i, func(x *api.Twig) { x.From = -x.From }), changedTwig(p, i, func(x *api.Twig) { x.Long = 0 }), changedTwig(p, i, func(x *api.Twig) { x.Long = -x.Long }),
		changedTwig(p, i, func(x *api.Twig) { x.Digest = 0 }), changedTwig(p, i, func(x *api.Twig) { x.Digest = last }), changedTwig(p, i, func(x *api.Twig) { x.From, x.Long = 1<<63-1, 1<<63-1 }))
	return slices.DeleteFunc(l, func(q []api.Twig) bool { return slices.Equal(p, q) })
}

// want is OK if something is so, and ErrProof otherwise.
func want(isSo bool) api.Errno {
	if isSo {
		return api.OK
	}
	return api.ErrProof
}

func TestCheckStands(t *testing.T) {
	c := chanceOf(22)
	for many := 1; many <= api.MaxEntries; many++ {
		for range 6 {
			l := c.book(many)
			at, root := c.IntN(many), rootOf(l)
			x := l[at]
			p, _ := book.Stands(l, at)
			check := func(root, many, at int, x api.Entry, p []api.Twig) {
				t.Helper()
				if e := book.CheckStands(root, many, at, x, p); e != want(isStanding(root, many, at, x, p)) {
					t.Error("P8.3:", root, many, at, x, p, e)
				}
			}
			for _, q := range changedProofs(c, p) {
				if e := book.CheckStands(root, many, at, x, q); e != api.ErrProof {
					t.Error("P8.3: a changed proof:", many, at, q, e)
				}
				check(root, many, at, x, q)
			}
			for _, y := range entries(entry(x.Day, x.Kind, x.Who, (x.Sum+1)%api.MaxSum), entry((x.Day+1)%api.MaxDay, x.Kind, x.Who, x.Sum), entry(x.Day, (x.Kind+1)%10, x.Who, x.Sum), entry(x.Day, x.Kind, (x.Who+1)%api.MaxWho, x.Sum)) {
				if e := book.CheckStands(root, many, at, y, p); e != api.ErrProof {
					t.Error("P8.3: another entry:", y, e)
				}
			}
			check((root+1)%last, many, at, x, p)
			for other := range many {
				check(root, many, other, x, p)
			}
			for other := 1; other <= api.MaxEntries; other++ {
				check(root, other, min(at, other-1), x, p)
			}
		}
	}
	// What is accepted does not depend on the book being one: the digests alone are asked.
	if e := book.CheckStands(digestOfNumbers(1, 2, 0, digestA), 2, 1, a, twigs(twig(0, 1, 0))); e != api.OK {
		t.Error("P8.3:", e)
	}
	if e := book.CheckStands(digestA, 1, 0, a, nil); e != api.OK {
		t.Error("P8.3:", e)
	}
}

func TestCheckStandsErrors(t *testing.T) {
	p := twigs(twig(0, 1, digestA), twig(2, 1, digestC))
	for _, x := range []struct {
		name           string
		root, many, at int
		x              api.Entry
		p              []api.Twig
		want           api.Errno
	}{
		{"right", digestABC, 3, 1, b, p, api.OK},
		{"no entries", digestABC, 0, 0, b, p, api.ErrArg}, {"fewer", digestABC, -1, -2, b, p, api.ErrArg}, {"too many", digestABC, api.MaxEntries + 1, 1, b, p, api.ErrArg}, {"far too many", digestABC, 1<<63 - 1, 1, b, p, api.ErrArg},
		{"no index", digestABC, 3, -1, b, p, api.ErrArg}, {"no index behind", digestABC, 3, 3, b, p, api.ErrArg}, {"far behind", digestABC, 3, 1<<63 - 1, b, p, api.ErrArg},
		{"the last one", digestABC, api.MaxEntries, api.MaxEntries - 1, b, p, api.ErrProof}, {"another number", digestABC, 4, 1, b, p, api.ErrProof}, {"another index", digestABC, 3, 0, b, p, api.ErrProof},
		{"no proof", digestABC, 3, 1, b, nil, api.ErrProof}, {"the digest 0", 0, 3, 1, b, p, api.ErrProof}, {"the greatest digest", last, 3, 1, b, p, api.ErrProof},
		{"many twigs", digestABC, 3, 1, b, make([]api.Twig, 100000), api.ErrProof},
		{"a wrong digest behind many", digestABC, 3, 1, b, append(make([]api.Twig, 100000), twig(0, 0, -1)), api.ErrArg},
	} {
		if e := book.CheckStands(x.root, x.many, x.at, x.x, x.p); e != x.want {
			t.Errorf("P8.3: %s: %d, want %d", x.name, e, x.want)
		}
	}
	for _, x := range wrongEntries() {
		if e := book.CheckStands(digestABC, 3, 1, x, p); e != api.ErrArg {
			t.Error("P8.3:", x, e)
		}
		if e := book.CheckStands(digestABC, 3, 1, x, nil); e != api.ErrArg {
			t.Error("P8.3: ErrArg ahead of ErrProof:", x, e)
		}
	}
	for _, d := range wrongDigests() {
		if e := book.CheckStands(d, 3, 1, b, p); e != api.ErrArg {
			t.Error("P8.3:", d, e)
		}
		if e := book.CheckStands(d, 3, 1, c, nil); e != api.ErrArg {
			t.Error("P8.3: ErrArg ahead of ErrProof:", d, e)
		}
		for i := range p {
			q := changedTwig(p, i, func(x *api.Twig) { x.Digest = d })
			if e := book.CheckStands(digestABC, 3, 1, b, q); e != api.ErrArg {
				t.Error("P8.3:", q, e)
			}
			q[0].Long = 9
			if e := book.CheckStands(digestABC, 3, 1, b, q); e != api.ErrArg {
				t.Error("P8.3: ErrArg ahead of ErrProof:", q, e)
			}
		}
	}
}

package book_test

import (
	"slices"
	"testing"

	"calx/api"
	"calx/book"
)

func TestMajority(t *testing.T) {
	abc, ab, ac := entries(a, b, c), entries(a, b), entries(a, c)
	for _, x := range []struct {
		l    [][]api.Entry
		want []api.Entry
	}{
		{copies(abc, ab, ac), ab}, {copies(abc), abc}, {copies(nil), nil}, {copies(nil, nil, abc), nil}, {copies(abc, nil, abc), abc}, {copies(abc, ab), ab}, {copies(ab, ac), entries(a)}, {copies(abc, nil), nil},
		// Half of the copies are not enough.
		{copies(abc, abc, nil, ab), ab}, {copies(abc, abc, ac, ac), entries(a)}, {copies(abc, abc, abc, ac), abc}, {copies(abc, abc, nil, nil), nil}, {copies(entries(b), entries(a)), nil},
		// Entries that are alike behind others that are not do not count.
		{copies(entries(a, a, c), entries(a, b, c), entries(b, b, c)), entries(a)}, {copies(entries(a, a, c), entries(b, a, c), entries(a, b, c), entries(a, a, c), entries(a, a, entry(3, 0, 6, 8))), entries(a, a)},
		{copies(entries(a, b, c), entries(b, b, c), entries(b, a, c)), entries(b)},
		{copies(entries(api.Entry{}), entries(api.Entry{}), entries(a)), entries(api.Entry{})}, {copies(entries(api.Entry{}), entries(a)), nil}, {copies(nil, nil, entries(api.Entry{})), nil},
		{slices.Repeat(copies(plain(64)), api.MaxCopies), plain(64)}, {append(slices.Repeat(copies(plain(64)), 5), plain(3), plain(2), plain(1)), plain(64)}, {append(slices.Repeat(copies(plain(64)), 4), plain(3), plain(2), plain(1), nil), plain(3)},
	} {
		if l, e := book.Majority(x.l); !slices.Equal(l, x.want) || e != api.OK {
			t.Error("P8.10:", x, l, e)
		}
	}
}

func TestMajorityErrors(t *testing.T) {
	many := slices.Repeat(copies(entries(a)), api.MaxCopies+1)
	for _, x := range []struct {
		l    [][]api.Entry
		want api.Errno
	}{
		{nil, api.ErrArg}, {copies(), api.ErrArg}, {many, api.ErrLimit}, {append(slices.Clone(many), entries(c, a)), api.ErrLimit}, {make([][]api.Entry, 100000), api.ErrLimit},
		{append(copies(entries(c, a)), many...), api.ErrLimit}, {copies(entries(c, a), plain(65)), api.ErrArg}, {copies(plain(65), entries(c, a)), api.ErrLimit}, {copies(entries(a), plain(65), entries(c, a)), api.ErrLimit},
	} {
		if l, e := book.Majority(x.l); l != nil || e != x.want {
			t.Error("P8.10:", len(x.l), l, e)
		}
	}
	for _, f := range faults() {
		for _, x := range [][][]api.Entry{copies(f.l), copies(f.l, entries(a), entries(a)), copies(entries(a), entries(a), f.l), copies(nil, f.l, plain(99))} {
			if l, e := book.Majority(x); l != nil || e != f.want {
				t.Error("P8.10:", x, l, e)
			}
		}
	}
}

// isMost reports whether more than half of some copies begin with some entries.
func isMost(l [][]api.Entry, first []api.Entry) bool {
	count := 0
	for _, m := range l {
		if len(m) >= len(first) && slices.Equal(m[:len(first)], first) {
			count++
		}
	}
	return 2*count > len(l)
}

// TestCopies: what more than half of the copies begin with, so does what is told, and nothing longer; the order of copies does not matter.
func TestCopies(t *testing.T) {
	c := chanceOf(81)
	long := 0
	for range 1500 {
		whole := c.book(c.from(0, api.MaxEntries))
		var l [][]api.Entry
		for range c.from(1, api.MaxCopies) {
			m := slices.Clone(whole[:c.from(len(whole)*c.IntN(2), len(whole))])
			if len(m) > 0 && c.IntN(3) == 0 {
				m[c.IntN(len(m))].Kind = c.IntN(2)
			}
			l = append(l, m)
		}
		got, e := book.Majority(l)
		if e != api.OK || len(got) > 0 && !isMost(l, got) {
			t.Fatal("P8.10:", l, got, e)
		}
		for _, m := range l {
			for first := range len(m) + 1 {
				if isMost(l, m[:first]) && (len(got) < first || !slices.Equal(got[:first], m[:first])) {
					t.Fatal("P8.16:", l, got, m[:first])
				}
			}
		}
		if len(got) > 3 {
			long++
		}
		for range 3 {
			c.Shuffle(len(l), func(i, k int) { l[i], l[k] = l[k], l[i] })
			if again, e := book.Majority(l); !slices.Equal(got, again) || e != api.OK {
				t.Error("P8.16:", l, got, again, e)
			}
		}
	}
	if long < 300 {
		t.Error("too few books of a sort:", long)
	}
}

package works_test

import (
	"slices"
	"testing"

	"calx/api"
	"calx/book"
	"calx/works"
)

// TestEntryOf: the numbers of which the digest is made are told one by one.
func TestEntryOf(t *testing.T) {
	for _, x := range []struct {
		w       api.Writ
		numbers []int
	}{
		{load(5, 2, 3, 4), list(0, 2, 3, 4, 0, 0, 0, 0)},
		{draw(5, 2, 3, 4), list(0, 2, 3, 4, 0, 0, 0, 0)},
		{weigh(5, api.WgDraws, 7, 8, 9, 10), list(0, 2, 7, 8, 9, 10, 0, 0)},
		{weigh(5, api.WgHeld, 7, 0, 9, 10), list(0, 3, 7, 0, 9, 10, 0, 0)},
		{look(5, 2, 3, 4, 6), list(0, 2, 3, 4, 6, 0, 0, 0)},
		{pour(5, 2, 1, 3, 4), list(0, api.StPour, 3, 2, 1, 0, 4, 0)},
		{take(5, 2, 1, 4), list(0, api.StTake, 0, 2, 1, 0, 4, 0)},
		{turn(5, 2, 1), list(0, api.StTurn, 0, 2, 1, 0, 0, 0)},
		{move(5, 2, 0, 1, 4), list(0, api.StMove, 0, 2, 0, 1, 4, 0)},
		{spill(5, 2, 1, 4), list(0, api.StSpill, 0, 2, 1, 0, 4, 0)},
		{back(5, 6), list(6, 0, 0, 0, 0, 0, 0, 0)},
	} {
		x.w.Known = 7
		digest, _ := book.Digest(x.numbers)
		want := api.Entry{Day: 7, Kind: x.w.Kind, Who: 5, Sum: digest / 2}
		if got, e := works.EntryOf(site(), x.w); got != want || e != api.OK {
			t.Error("P10.3:", x.w, got, e)
		}
	}
	for _, w := range rightWrits() {
		if got, e := works.EntryOf(site(), w); got != entryBy(w) || e != api.OK {
			t.Error("P10.3:", w, got, e)
		}
	}
}

// TestSums: half of a digest is rounded down, whether it is even or odd.
func TestSums(t *testing.T) {
	even, uneven := 0, 0
	for id := 1; id <= 40; id++ {
		digest, _ := book.Digest(list(id, 0, 0, 0, 0, 0, 0, 0))
		x, e := works.EntryOf(site(), back(1, id))
		if e != api.OK || x.Sum*2 > digest || x.Sum*2 < digest-1 {
			t.Error("P10.3:", id, x, digest, e)
		}
		if digest%2 == 0 {
			even++
		} else {
			uneven++
		}
	}
	if even < 5 || uneven < 5 {
		t.Error("P10.3: too few cases:", even, uneven)
	}
}

func TestBookOf(t *testing.T) {
	a, b, c, d := load(4, 0, 1, 2), draw(3, 0, 1, 2), look(2, 1, 1, 5, 6), back(1, 4)
	for _, x := range []struct{ l, want []api.Writ }{
		{nil, nil},
		{writs(a, b, c, d), writs(a, b, c, d)},
		{join(on(2, a, b), on(1, c), on(2, d), on(0, turn(9, 0, 0))), join(on(0, turn(9, 0, 0)), on(1, c), on(2, a, b, d))},
		{join(on(api.MaxDay, d), on(0, a), on(api.MaxDay, c, b)), join(on(0, a), on(api.MaxDay, d, c, b))},
	} {
		var want []api.Entry
		for _, w := range x.want {
			want = append(want, entryBy(w))
		}
		if got, e := works.BookOf(site(), x.l); !slices.Equal(got, want) || e != api.OK {
			t.Error("P10.3:", x.l, got, e)
		}
	}
}

// TestBookOfMuch compares books with the chapter's own words; what is withdrawn stands in them, too.
func TestBookOfMuch(t *testing.T) {
	for seed := range uint64(300) {
		w := chanceOf(1000 + seed).wild()
		got, e := works.BookOf(w.site, w.writs)
		if !slices.Equal(got, bookBy(w.writs)) || len(got) != len(w.writs) || e != api.OK || book.Check(got) != api.OK {
			t.Error("P10.3:", seed, got, e)
		}
	}
}

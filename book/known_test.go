package book_test

import (
	"testing"

	"calx/api"
	"calx/book"
)

func TestKnown(t *testing.T) {
	abc := entries(a, b, c)
	for _, x := range []struct {
		l         []api.Entry
		day, want int
	}{{abc, 0, 0}, {abc, 1, 2}, {abc, 2, 2}, {abc, 3, 3}, {abc, api.MaxDay, 3}, {nil, 0, 0}, {nil, api.MaxDay, 0}, {plain(64), 20, 63}, {plain(64), 21, 64}, {make([]api.Entry, 64), 0, 64}} {
		if n, e := book.Known(x.l, x.day); n != x.want || e != api.OK {
			t.Error("P8.9:", x, n, e)
		}
	}
	for _, day := range list(-1, api.MaxDay+1, 1<<63-1, -1<<63) {
		for _, l := range [][]api.Entry{nil, abc} {
			if n, e := book.Known(l, day); n != 0 || e != api.ErrArg {
				t.Error("P8.9:", day, n, e)
			}
		}
	}
}

func TestTotal(t *testing.T) {
	abc := entries(a, b, c)
	most := entry(5, 9, api.MaxWho, api.MaxSum)
	var full []api.Entry
	for range api.MaxEntries {
		full = append(full, most)
	}
	for _, x := range []struct {
		l                    []api.Entry
		kind, who, day, want int
	}{
		{abc, 0, 5, 3, 10}, {abc, 1, 5, 3, 4}, {abc, 0, 6, 3, 7}, {abc, 0, 6, 2, 0}, {abc, 0, 5, 1, 10}, {abc, 0, 5, 0, 0}, {abc, 1, 6, 3, 0}, {abc, 2, 5, 3, 0}, {nil, 0, 5, 3, 0},
		{entries(a, b, c, entry(3, 0, 5, 100), entry(4, 0, 5, 1000)), 0, 5, 3, 110}, {entries(a, a, a), 0, 5, 682, 30},
		{full, 9, api.MaxWho, 5, 64 << 30}, {full, 9, api.MaxWho, 4, 0}, {full, 0, 0, api.MaxDay, 0},
	} {
		if n, e := book.Total(x.l, x.kind, x.who, x.day); n != x.want || e != api.OK {
			t.Error("P8.9:", x, n, e)
		}
	}
	for _, l := range [][]api.Entry{nil, abc} {
		for _, x := range [][3]int{
			{-1, 5, 3}, {10, 5, 3}, {1<<63 - 1, 5, 3}, {-1 << 63, 5, 3}, {0, -1, 3}, {0, api.MaxWho + 1, 3}, {0, 1<<63 - 1, 3}, {0, -1 << 63, 3},
			{0, 5, -1}, {0, 5, api.MaxDay + 1}, {0, 5, 1<<63 - 1}, {0, 5, -1 << 63},
		} {
			if n, e := book.Total(l, x[0], x[1], x[2]); n != 0 || e != api.ErrArg {
				t.Error("P8.9:", x, n, e)
			}
		}
	}
}

// TestWritten: what is known of the first entries is known of the whole.
func TestWritten(t *testing.T) {
	c := chanceOf(71)
	for range 300 {
		l := c.book(c.from(0, api.MaxEntries))
		for range 6 {
			day := c.from(0, api.MaxDay)
			if len(l) > 0 && c.IntN(4) > 0 {
				day = min(max(l[c.IntN(len(l))].Day+c.from(-1, 1), 0), api.MaxDay)
			}
			kind, who := c.from(0, 9), c.from(0, 1)
			if c.IntN(2) == 0 {
				kind = c.from(0, 1)
			}
			count, sum := 0, 0
			for _, x := range l {
				if x.Day <= day {
					count++
					if x.Kind == kind && x.Who == who {
						sum += x.Sum
					}
				}
			}
			for _, first := range list(count, c.from(count, len(l)), len(l)) {
				if n, e := book.Known(l[:first], day); n != count || e != api.OK {
					t.Error("P8.12:", l, first, day, n, e)
				}
				if n, e := book.Total(l[:first], kind, who, day); n != sum || e != api.OK {
					t.Error("P8.12:", l, first, day, n, e)
				}
			}
			if n, e := book.Total(l[:count], kind, who, api.MaxDay); n != sum || e != api.OK {
				t.Error("P8.12:", l, day, n, e)
			}
		}
	}
}

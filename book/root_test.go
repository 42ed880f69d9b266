package book_test

import (
	"testing"

	"calx/api"
	"calx/book"
)

func TestRoot(t *testing.T) {
	for _, x := range []struct {
		l    []api.Entry
		want int
	}{{nil, nothing}, {entries(), nothing}, {entries(a), digestA}, {entries(a, b), digestAB}, {entries(a, b, c), digestABC}} {
		if d, e := book.Root(x.l); d != x.want || e != api.OK {
			t.Error("P8.2:", x, d, e)
		}
	}
	c := chanceOf(11)
	for many := range api.MaxEntries + 1 {
		for range 5 {
			l := c.book(many)
			if d, e := book.Root(l); d != rootOf(l) || e != api.OK {
				t.Error("P8.2:", l, d, e)
			}
		}
	}
}

func TestPart(t *testing.T) {
	c := chanceOf(12)
	for many := range api.MaxEntries + 1 {
		l := c.book(many)
		for from := range many + 1 {
			for long := range many - from + 1 {
				if c.IntN(many+1) > 12 {
					continue
				}
				if d, e := book.Part(l, from, long); d != rootOf(l[from:from+long]) || e != api.OK {
					t.Error("P8.2:", l, from, long, d, e)
				}
			}
		}
		if d, e := book.Part(l, 0, many); d != rootOf(l) || e != api.OK {
			t.Error("P8.2:", l, d, e)
		}
		for _, x := range [][2]int{{-1, 0}, {0, -1}, {-1, 1}, {1, -1}, {-1, -1}, {many + 1, 0}, {0, many + 1}, {many, 1}, {many + 1, -1}, {1, many}, {1<<63 - 1, 1}, {1, 1<<63 - 1}, {1<<63 - 1, 1<<63 - 1}, {-1 << 63, 0}, {0, -1 << 63}, {-1 << 63, -1 << 63}} {
			if d, e := book.Part(l, x[0], x[1]); d != 0 || e != api.ErrArg {
				t.Error("P8.2:", many, x, d, e)
			}
		}
	}
	// A part is halved as a tree of its own, also where no halving of the book comes to it.
	if d, e := book.Part(entries(entry(0, 3, 3, 3), a, b, entry(3, 0, 6, 7)), 1, 3); d != digestABC || e != api.OK {
		t.Error("P8.2:", d, e)
	}
}

// TestParts: the digest of a book is that of its Parts, put together by Node.
func TestParts(t *testing.T) {
	c := chanceOf(13)
	for many := 2; many <= api.MaxEntries; many++ {
		l := c.book(many)
		for _, p := range places(many) {
			whole, e := book.Part(l, p.from, p.long)
			if e != api.OK {
				t.Fatal("P8.14:", e)
			}
			if p.long == 1 {
				if d, e := book.Leaf(l[p.from]); d != whole || e != api.OK {
					t.Error("P8.14:", many, p, d, e)
				}
				continue
			}
			half := halfOf(p.long)
			left, _ := book.Part(l, p.from, half)
			right, _ := book.Part(l, p.from+half, p.long-half)
			if d, e := book.Node(p.long, left, right); d != whole || e != api.OK {
				t.Error("P8.14:", many, p, d, e)
			}
		}
	}
}

// TestPeaks: a book is made of trees of full powers of 2, the greatest first, which stay when it goes on; the last two are always put together first.
func TestPeaks(t *testing.T) {
	c := chanceOf(14)
	all := c.book(api.MaxEntries)
	type peak struct{ from, long int }
	var peaks []peak
	kept := map[peak]int{}
	for many := 1; many <= len(all); many++ {
		peaks = append(peaks, peak{many - 1, 1})
		for i := len(peaks) - 1; i > 0 && peaks[i-1].long == peaks[i].long; i-- {
			peaks = append(peaks[:i-1], peak{peaks[i-1].from, 2 * peaks[i].long})
		}
		digest, long := 0, 0
		for i := len(peaks) - 1; i >= 0; i-- {
			p := peaks[i]
			d, e := book.Part(all[:many], p.from, p.long)
			if was, found := kept[p]; e != api.OK || found && was != d {
				t.Error("P8.14: a tree did not stay:", many, p, e)
			}
			kept[p] = d
			if long += p.long; long > p.long {
				digest, _ = book.Node(long, d, digest)
			} else {
				digest = d
			}
		}
		if d, e := book.Root(all[:many]); d != digest || e != api.OK {
			t.Error("P8.14:", many, d, digest, e)
		}
	}
}

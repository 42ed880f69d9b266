package shaft_test

import (
	"math"
	"slices"
	"testing"

	"calx/api"
	"calx/shaft"
)

func TestFind(t *testing.T) {
	many(t, 2, func(t *testing.T, k api.Kiln, all []api.Truth) {
		x, e := shaft.Find(k)
		if len(all) == 0 {
			if e != api.ErrClash || x.Loads != nil || x.Draws != nil {
				t.Error("P1.3:", x, e)
			}
			return
		}
		if e != api.OK || len(x.Loads) != len(k.Loads) || len(x.Draws) != len(k.Draws) || !isTrue(k, x) {
			t.Error("P1.3:", x, e)
		}
	})
	if _, e := shaft.Find(wrong()); e != api.ErrArg {
		t.Error("P1.3:", e)
	}
}

func TestClash(t *testing.T) {
	many(t, 3, func(t *testing.T, k api.Kiln, all []api.Truth) {
		l, bad, e := shaft.Clash(k)
		if e != api.OK || bad != (len(all) == 0) {
			t.Error("P1.3:", l, bad, e)
		}
		if !bad {
			if len(l) != 0 {
				t.Error("P1.3: a circle of nothing:", l)
			}
			return
		}
		ties, _ := shaft.Ties(k)
		sum := 0
		for i, x := range l {
			if ties[x].To != ties[l[(i+1)%len(l)]].From {
				t.Error("P1.3: no circle:", l)
			}
			sum += ties[x].Most
		}
		if len(l) == 0 || sum >= 0 {
			t.Error("P1.3: no circle that contradicts itself:", l, sum)
		}
		if e := shaft.CheckClash(k, l); e != api.OK {
			t.Error("P1.10:", l, e)
		}
	})
	if l, bad, e := shaft.Clash(wrong()); e != api.ErrArg || bad || l != nil {
		t.Error("P1.3:", l, bad, e)
	}
}

// TestClashOfNothing: something was weighed where nothing can lie.
func TestClashOfNothing(t *testing.T) {
	k := empty()
	k.Weighs = []api.Weigh{{ID: 1, Kind: api.WgHeld, From: 3, Sum: api.Span{Lo: 1, Hi: 2}}}
	l, bad, e := shaft.Clash(k)
	if e != api.OK || !bad || !slices.Equal(l, []int{1}) || shaft.CheckClash(k, l) != api.OK {
		t.Error("P1.3:", l, bad, e)
	}
	if _, e := shaft.Find(k); e != api.ErrClash {
		t.Error("P1.3:", e)
	}
	if l, e := shaft.Suspects(k); e != api.OK || !slices.Equal(l, []int{1}) {
		t.Error("P1.9:", l, e)
	}
}

func TestCheckClash(t *testing.T) {
	k := broken()
	// 0 and 15 are the ties 0 to 1: 30, and 1 to 0: -31.
	long := func(count int) []int {
		l := make([]int, 0, count)
		for len(l) < count {
			l = append(l, 0, 15)
		}
		return l[:count]
	}
	for _, x := range []struct {
		l    []int
		want api.Errno
	}{
		{[]int{0, 15}, api.OK}, {[]int{15, 0}, api.OK},
		{[]int{0, 15, 0, 15}, api.OK}, {[]int{0, 1, 0, 15}, api.ErrProof},
		{nil, api.ErrProof}, {[]int{}, api.ErrProof}, {[]int{0}, api.ErrProof}, {[]int{15}, api.ErrProof},
		{[]int{0, 1}, api.ErrProof}, {[]int{0, 0}, api.ErrProof}, {[]int{1, 15}, api.ErrProof}, {[]int{1, 3}, api.ErrProof},
		{[]int{-1}, api.ErrProof}, {[]int{21}, api.ErrProof}, {[]int{0, 21}, api.ErrProof}, {[]int{0, -1}, api.ErrProof}, {[]int{math.MaxInt, math.MinInt}, api.ErrProof},
		{long(api.MaxChain), api.OK}, {long(api.MaxChain + 1), api.ErrLimit}, {long(api.MaxChain + 2), api.ErrLimit},
		{make([]int, 5000), api.ErrLimit},
	} {
		if e := shaft.CheckClash(k, x.l); e != x.want {
			t.Error("P1.3:", x, e)
		}
	}
	if e := shaft.CheckClash(wrong(), make([]int, 5000)); e != api.ErrArg {
		t.Error("P1.3:", e)
	}
	// A circle whose sum is 0 contradicts nothing.
	k = example()
	k.Loads[0].Weight = api.Span{Lo: 30, Hi: 30}
	if e := shaft.CheckClash(k, []int{0, 1}); e != api.ErrProof {
		t.Error("P1.3: a circle of 0:", e)
	}
}

// TestCircles: no list of few ties is a circle less than 0 if there are true weights.
func TestCircles(t *testing.T) {
	many(t, 4, func(t *testing.T, k api.Kiln, all []api.Truth) {
		ties, _ := shaft.Ties(k)
		for a := range ties {
			for b := range ties {
				e := shaft.CheckClash(k, []int{a, b})
				is := ties[a].To == ties[b].From && ties[b].To == ties[a].From && ties[a].Most+ties[b].Most < 0
				if is && len(all) > 0 || (e == api.OK) != is {
					t.Fatal("P1.10:", a, b, e)
				}
			}
		}
	})
}

func TestAbove(t *testing.T) {
	many(t, 5, func(t *testing.T, k api.Kiln, all []api.Truth) {
		marks := 1 + len(k.Loads) + len(k.Draws)
		for from := range marks {
			for to := range marks {
				c, e := shaft.Above(k, from, to)
				if len(all) == 0 {
					if e != api.ErrClash || c.Most != 0 || c.Path != nil || c.Truth.Loads != nil {
						t.Fatal("P1.4:", c, e)
					}
					continue
				}
				s, _ := among(all, func(x api.Truth) int { return height(k, x, to) - height(k, x, from) })
				if e != api.OK || c.Most != s.Hi || !isTrue(k, c.Truth) || height(k, c.Truth, to)-height(k, c.Truth, from) != s.Hi {
					t.Fatal("P1.4:", from, to, c, e, s)
				}
				if !leads(k, from, to, c) {
					t.Fatal("P1.4: no path with this sum:", from, to, c)
				}
				if e := shaft.CheckAbove(k, from, to, c); e != api.OK {
					t.Fatal("P1.10:", from, to, c, e)
				}
				doubted(t, k, from, to, c, all)
			}
		}
	})
}

// leads reports whether a chain has a path with its sum.
func leads(k api.Kiln, from, to int, c api.Chain) bool {
	ties, _ := shaft.Ties(k)
	at, sum := from, 0
	for _, i := range c.Path {
		if ties[i].From != at {
			return false
		}
		at = ties[i].To
		sum += ties[i].Most
	}
	return at == to && sum == c.Most
}

// doubted checks that changed chains are refused: another sum, weights that fall short, a path that is cut.
func doubted(t *testing.T, k api.Kiln, from, to int, c api.Chain, all []api.Truth) {
	t.Helper()
	for _, by := range []int{-1, 1} {
		x := c
		x.Most += by
		if e := shaft.CheckAbove(k, from, to, x); e != api.ErrProof {
			t.Fatal("P1.10: another sum:", x, e)
		}
	}
	if len(c.Path) > 0 {
		x := c
		x.Path = c.Path[1:]
		if e := shaft.CheckAbove(k, from, to, x); (e == api.OK) != leads(k, from, to, x) {
			t.Fatal("P1.4: a path that is cut:", x, e)
		}
	}
	for _, w := range all[:min(len(all), 5)] {
		x := c
		x.Truth = w
		want := api.ErrProof
		if height(k, w, to)-height(k, w, from) == c.Most {
			want = api.OK
		}
		if e := shaft.CheckAbove(k, from, to, x); e != want {
			t.Fatal("P1.4: other weights:", x, e, want)
		}
	}
}

func TestAboveErrors(t *testing.T) {
	for _, x := range []struct {
		from, to int
		want     api.Errno
	}{{0, 5, api.OK}, {5, 0, api.OK}, {3, 3, api.OK}, {-1, 0, api.ErrArg}, {0, -1, api.ErrArg}, {6, 0, api.ErrArg}, {0, 6, api.ErrArg}, {math.MaxInt, math.MinInt, api.ErrArg}} {
		c, e := shaft.Above(example(), x.from, x.to)
		if e != x.want {
			t.Error("P1.4:", x, e)
		}
		if e := shaft.CheckAbove(example(), x.from, x.to, c); e != x.want {
			t.Error("P1.4:", x, e)
		}
		if _, e := shaft.Rests(example(), x.from, x.to); e != x.want {
			t.Error("P1.9:", x, e)
		}
	}
	if _, e := shaft.Above(broken(), 0, 1); e != api.ErrClash {
		t.Error("P1.4:", e)
	}
	if _, e := shaft.Above(broken(), 0, 9); e != api.ErrArg {
		t.Error("P1.4: ErrArg ahead of ErrClash:", e)
	}
	k := wrong()
	k.PerFoot, k.Draws = 1, make([]api.Draw, 21)
	if _, e := shaft.Above(k, -1, 0); e != api.ErrLimit {
		t.Error("P1.4: the kiln's error first:", e)
	}
	if e := shaft.CheckAbove(k, -1, 0, api.Chain{}); e != api.ErrLimit {
		t.Error("P1.4: the kiln's error first:", e)
	}
}

func TestCheckAbove(t *testing.T) {
	k := example()
	w := api.Truth{Loads: []int{30, 10, 33}, Draws: []int{18, 25}}
	if e := shaft.CheckAbove(k, 0, 1, api.Chain{Most: 30, Path: []int{0}, Truth: w}); e != api.OK {
		t.Error("P1.4:", e)
	}
	// The load 1 with the bounds 30 to 30 can be walked up and down without end.
	k.Loads[0].Weight.Lo = 30
	around := func(count int) []int {
		l := []int{0}
		for len(l) < count {
			l = append(l, 1, 0)
		}
		return l
	}
	for _, x := range []struct {
		name string
		c    api.Chain
		want api.Errno
	}{
		{"a short path", api.Chain{Most: 30, Path: around(1), Truth: w}, api.OK},
		{"a path of 199 ties", api.Chain{Most: 30, Path: around(199), Truth: w}, api.OK},
		{"a path of 201 ties", api.Chain{Most: 30, Path: around(201), Truth: w}, api.ErrLimit},
		{"a long path, and nothing else", api.Chain{Path: make([]int, 201)}, api.ErrLimit},
		{"no path", api.Chain{Most: 30, Truth: w}, api.ErrProof},
		{"the tie of the room", api.Chain{Most: 100, Path: []int{16}, Truth: w}, api.ErrProof},
		{"a tie from elsewhere", api.Chain{Most: 30, Path: []int{2}, Truth: w}, api.ErrProof},
		{"a path that goes on", api.Chain{Most: 45, Path: []int{0, 2}, Truth: w}, api.ErrProof},
		{"no tie", api.Chain{Most: 30, Path: []int{-1}, Truth: w}, api.ErrProof},
		{"no tie behind", api.Chain{Most: 30, Path: []int{19}, Truth: w}, api.ErrProof},
		{"no weights", api.Chain{Most: 30, Path: []int{0}}, api.ErrProof},
		{"too few weights", api.Chain{Most: 30, Path: []int{0}, Truth: api.Truth{Loads: w.Loads, Draws: w.Draws[:1]}}, api.ErrProof},
		{"weights that are not true", api.Chain{Most: 30, Path: []int{0}, Truth: api.Truth{Loads: []int{30, 10, 33}, Draws: []int{18, 26}}}, api.ErrProof},
		{"weights out of bounds", api.Chain{Most: 30, Path: []int{0}, Truth: api.Truth{Loads: []int{30, 10, math.MaxInt}, Draws: []int{18, math.MinInt}}}, api.ErrProof},
	} {
		if e := shaft.CheckAbove(k, 0, 1, x.c); e != x.want {
			t.Errorf("P1.4: %s: %d, want %d", x.name, e, x.want)
		}
	}
	if e := shaft.CheckAbove(k, 2, 2, api.Chain{Truth: w}); e != api.OK {
		t.Error("P1.4: the empty path:", e)
	}
	if e := shaft.CheckAbove(k, 1, 1, api.Chain{Path: []int{1, 0}, Truth: w}); e != api.OK {
		t.Error("P1.4: around a circle of 0:", e)
	}
	if e := shaft.CheckAbove(k, 1, 1, api.Chain{Path: slices.Repeat([]int{1, 0}, api.MaxChain/2), Truth: w}); e != api.OK {
		t.Error("P1.4: as many ties as a path may have:", e)
	}
	if e := shaft.CheckAbove(broken(), 0, 1, api.Chain{Most: 30, Path: []int{0}, Truth: w}); e != api.ErrProof {
		t.Error("P1.10: nothing is true of a kiln that contradicts itself:", e)
	}
}

// TestTriangles: no way around is shorter, and no tie is.
func TestTriangles(t *testing.T) {
	many(t, 6, func(t *testing.T, k api.Kiln, all []api.Truth) {
		if len(all) == 0 {
			return
		}
		marks := 1 + len(k.Loads) + len(k.Draws)
		most := func(from, to int) int {
			c, _ := shaft.Above(k, from, to)
			return c.Most
		}
		for a := range marks {
			if most(a, a) != 0 {
				t.Fatal("P1.4: a mark above itself:", a)
			}
			for b := range marks {
				for c := range marks {
					if most(a, c) > most(a, b)+most(b, c) {
						t.Fatal("P1.11:", a, b, c)
					}
				}
			}
		}
		ties, _ := shaft.Ties(k)
		for i, x := range ties {
			if x.Most < most(x.From, x.To) {
				t.Fatal("P1.11:", i, x)
			}
		}
	})
}

// TestGreatChains: chains of the greatest kilns keep the limit, and prove what they say.
func TestGreatChains(t *testing.T) {
	for seed := range uint64(4) {
		k, w := great(seed)
		if e := shaft.Check(k); e != api.OK {
			t.Fatal("P1.1:", e)
		}
		if i, fits, e := shaft.Fits(k, w); e != api.OK || !fits || i != 0 {
			t.Fatal("P1.2:", i, fits, e)
		}
		marks := 1 + len(k.Loads) + len(k.Draws)
		for from := 0; from < marks; from += 3 {
			for to := range marks {
				c, e := shaft.Above(k, from, to)
				if e != api.OK || height(k, w, to)-height(k, w, from) > c.Most || shaft.CheckAbove(k, from, to, c) != api.OK {
					t.Fatal("P1.4:", from, to, c, e)
				}
			}
		}
		k.Weighs[0].Sum = api.Span{}
		l, bad, e := shaft.Clash(k)
		if e != api.OK || !bad || shaft.CheckClash(k, l) != api.OK {
			t.Error("P1.3:", l, bad, e)
		}
		if l, e := shaft.Suspects(k); e != api.OK || !slices.Equal(l, []int{200}) {
			t.Error("P1.9:", l, e)
		}
	}
}

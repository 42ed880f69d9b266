package pit_test

import (
	"math"
	"math/rand/v2"
	"slices"
	"testing"

	"calx/api"
	"calx/pit"
)

func TestCut(t *testing.T) {
	p := example()
	for n := range 9 {
		if q, e := pit.Cut(p, n); e != api.OK || !equal(q, pits(p.Rooms, p.Stirs[:n]...)) {
			t.Error("P4.8:", n, q, e)
		}
	}
	for _, n := range append(nowhere(), 9) {
		if q, e := pit.Cut(p, n); e != api.ErrArg || !equal(q, api.Pits{}) {
			t.Error("P4.8:", n, q, e)
		}
	}
	if q, e := pit.Cut(wrong(), 8); e != api.ErrState || !equal(q, api.Pits{}) {
		t.Error("P4.8: a step is wrong behind the cut:", q, e)
	}
	if q, e := pit.Cut(pits([]int{3}), 0); e != api.OK || !equal(q, pits([]int{3})) {
		t.Error("P4.8: no steps:", q, e)
	}
}

func TestCutAtRandom(t *testing.T) {
	many(t, 8, 300, func(t *testing.T, r *rand.Rand, p api.Pits, m model) {
		a, b := r.IntN(len(p.Stirs)+1), r.IntN(len(p.Stirs)+1)
		q, e := pit.Cut(p, a)
		if e != api.OK || !equal(q, pits(p.Rooms, p.Stirs[:a]...)) {
			t.Fatal("P4.8:", a, q, e)
		}
		least, _ := pit.Cut(p, min(a, b))
		again, e := pit.Cut(q, b)
		if b > a {
			if e != api.ErrArg {
				t.Fatal("P4.8:", a, b, e)
			}
			return
		}
		if e != api.OK || !equal(again, least) {
			t.Fatal("P4.14: Cut of Cut:", a, b, again, least, e)
		}
	})
}

// TestSwapByHand: what is compared, and what is not.
func TestSwapByHand(t *testing.T) {
	two := pits([]int{50, 50}, pour(1, 0, 0, 10), pour(2, 0, 0, 10))
	mixed := more(two, turn(0, 0))
	for _, x := range []struct {
		name string
		p    api.Pits
		step int
		want bool
		e    api.Errno
	}{
		{"pours in one pit", two, 1, false, api.OK},
		{"pours in two pits", pits([]int{50, 50}, pour(1, 0, 0, 10), pour(2, 0, 1, 10)), 1, true, api.OK},
		{"pours of one pit that is turned then", mixed, 1, true, api.OK},
		{"a pour that is then not mixed", mixed, 2, false, api.OK},
		{"pours of one pit, all of which is taken", more(two, take(11, 0, 0, 20)), 1, true, api.OK},
		{"pours of one pit, half of which is taken", more(two, take(11, 0, 0, 10)), 1, false, api.OK},
		{"pours of one pit, all of which is lost", more(two, spill(0, 0, 20)), 1, true, api.OK},
		{"pours of one pit, half of which is lost", more(two, spill(0, 0, 10)), 1, false, api.OK},
		{"turned twice", more(mixed, turn(0, 0)), 3, true, api.OK},
		{"barrows of what is mixed", more(mixed, take(11, 0, 0, 3), take(12, 0, 0, 4)), 4, true, api.OK},
		{"barrows of what is not mixed", more(two, take(11, 0, 0, 3), take(12, 0, 0, 8)), 3, false, api.OK},
		{"barrows of one parcel", more(two, take(11, 0, 0, 3), take(12, 0, 0, 7)), 3, true, api.OK},
		{"barrows of the same parts", more(two, take(11, 0, 0, 10), take(12, 0, 0, 10)), 3, false, api.OK},
		{"a barrow and what is lost", more(mixed, take(11, 0, 0, 3), spill(0, 0, 4)), 4, true, api.OK},
		{"a barrow and what is lost, with other parts", more(two, take(11, 0, 0, 3), spill(0, 0, 10)), 3, false, api.OK},
		{"the same losses", more(two, spill(0, 0, 3), spill(0, 0, 4)), 3, true, api.OK},
		{"moved and turned", more(two, move(0, 0, 1, 10), turn(0, 1)), 3, true, api.OK},
		{"turned here and moved", more(two, turn(0, 0), move(0, 0, 1, 10)), 3, false, api.OK},
		{"moved twice the same", more(two, move(0, 0, 1, 10), move(0, 0, 1, 10)), 3, true, api.OK},
		{"moved one parcel in two, or in others", more(two, move(0, 0, 1, 3), move(0, 0, 1, 7)), 3, false, api.OK},
		{"moved in like parcels", more(mixed, move(0, 0, 1, 5), move(0, 0, 1, 5)), 4, true, api.OK},
		{"taken ahead of the pour", two, 0, false, api.ErrArg},
		{"the last step", two, 2, false, api.ErrArg},
		{"behind it", two, 3, false, api.ErrArg},
		{"below it", two, -1, false, api.ErrArg},
		{"the greatest int", two, math.MaxInt, false, api.ErrArg},
		{"the least int", two, math.MinInt, false, api.ErrArg},
		{"no steps", pits([]int{5}), 0, false, api.ErrArg},
		{"one step", pits([]int{5}, turn(0, 0)), 1, false, api.ErrArg},
		{"taken ahead of what was poured", more(two, take(11, 0, 0, 11)), 2, false, api.ErrState},
		{"poured ahead of what was taken", pits([]int{9, 9}, pour(1, 0, 0, 5), take(11, 0, 0, 1), pour(2, 0, 0, 5)), 2, false, api.ErrLimit},
		{"in wrong pits", wrong(), 5, false, api.ErrState},
		{"nowhere in wrong pits", wrong(), 0, false, api.ErrState},
	} {
		q, same, e := pit.Swap(x.p, x.step)
		if e != x.e || same != x.want {
			t.Error("P4.8:", x.name, same, e)
		}
		if e != api.OK {
			if !equal(q, api.Pits{}) {
				t.Error("P4.8:", x.name, q)
			}
			continue
		}
		want := clone(x.p)
		want.Stirs[x.step-1], want.Stirs[x.step] = x.p.Stirs[x.step], x.p.Stirs[x.step-1]
		if !equal(q, want) {
			t.Error("P4.8:", x.name, q)
		}
	}
}

func TestSwapDays(t *testing.T) {
	p := pits([]int{50, 50}, pour(1, 3, 0, 10), pour(2, 7, 1, 10))
	want := pits([]int{50, 50}, pour(2, 3, 1, 10), pour(1, 7, 0, 10))
	if q, same, e := pit.Swap(p, 1); !equal(q, want) || !same || e != api.OK {
		t.Error("P4.8:", q, same, e)
	}
	p = example()
	if q, same, e := pit.Swap(p, 5); e != api.OK || !same || q.Stirs[4] != move(9, 0, 1, 15) || q.Stirs[5] != take(12, 9, 0, 10) {
		t.Error("P4.8:", q, same, e)
	}
	if q, same, e := pit.Swap(p, 1); e != api.OK || same || q.Stirs[0] != pour(2, 0, 0, 20) || q.Stirs[1] != pour(1, 2, 0, 30) {
		t.Error("P4.8:", q, same, e)
	}
}

// TestSwapRange: parts that come of the other order are not fine, though those of this one are.
func TestSwapRange(t *testing.T) {
	p := primes(move(0, 0, 1, 1), move(0, 0, 1, 126), move(0, 2, 1, 1), take(11, 0, 1, 128))
	if q, same, e := pit.Swap(p, 8); e != api.ErrRange || same || !equal(q, api.Pits{}) {
		t.Error("P4.8:", q, same, e)
	}
}

func TestSwap(t *testing.T) {
	alike, other, apart, errors := 0, 0, 0, 0
	many(t, 9, 1000, func(t *testing.T, r *rand.Rand, p api.Pits, m model) {
		if len(p.Stirs) < 2 {
			return
		}
		step := 1 + r.IntN(len(p.Stirs)-1)
		a, b := p.Stirs[step-1], p.Stirs[step]
		want := clone(p)
		want.Stirs[step-1], want.Stirs[step] = b, a
		want.Stirs[step-1].Day, want.Stirs[step].Day = a.Day, b.Day
		n, fails, _ := modelOf(want)
		q, same, e := pit.Swap(p, step)
		if fails != api.OK {
			errors++
			if e != fails || same || !equal(q, api.Pits{}) {
				t.Fatal("P4.8:", step, q, same, e, fails)
			}
			return
		}
		if e != api.OK || !equal(q, want) || same != m.isLike(n) {
			t.Fatal("P4.8:", step, q, same, e)
		}
		if same {
			alike++
		} else {
			other++
		}
		if !slices.ContainsFunc(pitsOf(a), func(x int) bool { return slices.Contains(pitsOf(b), x) }) {
			apart++
			if !same {
				t.Fatal("P4.14: steps about different pits:", step)
			}
		}
	})
	if alike < 100 || other < 100 || apart < 100 || errors < 50 {
		t.Error("too few swaps:", alike, other, apart, errors)
	}
}

// pitsOf is the pits that a step is about.
func pitsOf(x api.Stir) []int {
	if x.Kind == api.StMove {
		return []int{x.Pit, x.To}
	}
	return []int{x.Pit}
}

// TestInTurn: nothing is turned, nor moved.
func TestInTurn(t *testing.T) {
	later := 0
	many(t, 10, 500, func(t *testing.T, r *rand.Rand, p api.Pits, m model) {
		p.Stirs = slices.DeleteFunc(p.Stirs, func(x api.Stir) bool { return x.Kind == api.StTurn })
		checkWhole(t, p)
		p.Stirs = slices.DeleteFunc(p.Stirs, func(x api.Stir) bool { return x.Kind == api.StMove })
		if e, _ := pit.Check(p); e != api.OK {
			return
		}
		place := map[int]int{}
		for i, x := range p.Stirs {
			if x.Kind == api.StPour {
				place[x.ID] = i
			}
		}
		newest := map[int]int{} // by pit, the place of the last pour of which a barrow had something
		for _, x := range p.Stirs {
			if x.Kind != api.StTake {
				continue
			}
			l, _ := pit.Barrow(p, x.ID)
			for _, y := range l {
				if place[y.Pour] < newest[x.Pit] {
					t.Fatal("P4.10: a barrow has a pour that is older than one of which an earlier barrow has something:", x.ID, l)
				}
			}
			if last := place[l[len(l)-1].Pour]; last > newest[x.Pit] {
				newest[x.Pit] = last
				later++
			}
		}
	})
	if later < 200 {
		t.Error("too few barrows behind others:", later)
	}
}

// checkWhole is whether all parts are whole, in pits that may be wrong.
func checkWhole(t *testing.T, p api.Pits) {
	t.Helper()
	barrows, _ := pit.Barrows(p)
	for _, id := range barrows {
		l, _ := pit.Barrow(p, id)
		for _, y := range l {
			if y.Amount.Den != 1 {
				t.Error("P4.10: a part is not whole:", id, l)
			}
		}
	}
}

// TestMixedAlike: two barrows are taken out of a parcel that was mixed.
func TestMixedAlike(t *testing.T) {
	pairs := 0
	many(t, 11, 500, func(t *testing.T, r *rand.Rand, p api.Pits, m model) {
		for i, l := range m.pits {
			held := amountOf(l)
			if held < 2 || len(p.Stirs)+3 > api.MaxStirs {
				continue
			}
			a := 1 + r.IntN(min(held-1, api.MaxAmount))
			b := 1 + r.IntN(min(held-a, api.MaxAmount))
			q := more(p, turn(api.MaxDay, i), take(1001, api.MaxDay, i, a), take(1002, api.MaxDay, i, b))
			if e, _ := pit.Check(q); e != api.OK {
				continue
			}
			pairs++
			for _, x := range m.pours {
				one, e1 := pit.Share(q, 1001, x.ID)
				two, e2 := pit.Share(q, 1002, x.ID)
				if one != two || e1 != api.OK || e2 != api.OK {
					t.Fatal("P4.11:", i, a, b, x.ID, one, two)
				}
			}
		}
	})
	if pairs < 100 {
		t.Error("too few pairs of barrows:", pairs)
	}
}

// TestMemory: arguments stay as they are, also behind their ends; results share no memory.
func TestMemory(t *testing.T) {
	stirs := append(slices.Clone(example().Stirs), turn(500, 5), turn(501, 5))
	rooms := []int{100, 50, 7, 8}
	p := pits(rooms[:2], stirs[:8]...)
	keptStirs, keptRooms := slices.Clone(stirs), slices.Clone(rooms)
	grades := []api.Grade{{Pour: 1, Mille: span(0, 5)}, {Pour: 9}}
	probes := []api.Probe{probe(12, 100, 120), {Barrow: 99}}
	use := func() {
		answers(t, p)
		for step := range 9 {
			cut, _ := pit.Cut(p, step)
			swap, _, _ := pit.Swap(p, step)
			for _, q := range []api.Pits{cut, swap} {
				q.Rooms = append(q.Rooms, 1)
				q.Stirs = append(q.Stirs, api.Stir{})
				q.Rooms[0], q.Stirs[0] = -1, api.Stir{}
			}
		}
		_, _, e1 := pit.Worth(p, 13, grades[:1])
		_, e2 := pit.Culprits(p, probes[:1])
		_, _, e3 := pit.Clears(p, probes[:1], 1)
		if e := max(e1, e2, e3, pit.CheckBlame(p, probes[:1], 1, ratio(200, 1))); e != api.OK {
			t.Error("R6:", e)
		}
		for _, l := range [][]int{first(pit.Pours(p)), first(pit.Barrows(p))} {
			l[0] = 77
		}
		parcels := first(pit.Content(p, 0, 3))
		parcels[0].Parts[0] = part(77, 77)
		parts := first(pit.Barrow(p, 13))
		parts[0] = part(77, 77)
		parts, _, _, _ = pit.Fate(p, 1)
		parts[0] = part(77, 77)
	}
	use()
	use()
	if !slices.Equal(stirs, keptStirs) || !slices.Equal(rooms, keptRooms) || grades[1] != (api.Grade{Pour: 9}) || probes[1] != (api.Probe{Barrow: 99}) {
		t.Error("R6: an argument is changed:", stirs, rooms, grades, probes)
	}
	TestExampleContent(t)
	TestExampleBarrows(t)
	TestExampleFate(t)
	list := first(pit.Content(p, 0, 3))
	grown := append(list[0].Parts, part(5, 5))
	if len(list[1].Parts) != 1 || list[1].Parts[0] != part(2, 20) || len(grown) != 2 {
		t.Error("R6: parts share memory:", list)
	}
}

// first is a result without its error.
func first[T any](l []T, _ api.Errno) []T { return l }

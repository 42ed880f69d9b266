package pit_test

import (
	"math"
	"math/rand/v2"
	"slices"
	"testing"

	"calx/api"
	"calx/pit"
)

// nowhere is numbers that are no pits where there are two, and no steps where there are less than 99.
func nowhere() []int { return []int{-1, 99, math.MinInt, math.MaxInt} }

func TestCheckRooms(t *testing.T) {
	for _, x := range []struct {
		name  string
		rooms []int
		want  api.Errno
	}{
		{"no rooms", nil, api.ErrArg},
		{"no rooms, not nil", []int{}, api.ErrArg},
		{"one", []int{1}, api.OK},
		{"as many as can be", []int{1, 2, 3, 4, 5, 6}, api.OK},
		{"one too many", []int{1, 2, 3, 4, 5, 6, 7}, api.ErrArg},
		{"the greatest", []int{api.MaxHold}, api.OK},
		{"too great a one", []int{api.MaxHold + 1}, api.ErrArg},
		{"too great a one at the end", []int{5, 5, api.MaxHold + 1}, api.ErrArg},
		{"none", []int{0}, api.ErrArg},
		{"none at the end", []int{5, 0}, api.ErrArg},
		{"below none", []int{-1, 5}, api.ErrArg},
		{"the least int", []int{math.MinInt}, api.ErrArg},
		{"the greatest int", []int{math.MaxInt}, api.ErrArg},
	} {
		for _, stirs := range [][]api.Stir{nil, make([]api.Stir, api.MaxStirs+1), {{Kind: 9}}} {
			want := x.want
			if want == api.OK && len(stirs) > 1 {
				want = api.ErrLimit
			}
			step := 0
			if want == api.OK && len(stirs) == 1 {
				want, step = api.ErrForm, 1
			}
			if e, n := pit.Check(pits(x.rooms, stirs...)); e != want || n != step {
				t.Error("P4.2:", x.name, len(stirs), e, n)
			}
		}
	}
}

func TestCheckMany(t *testing.T) {
	full := pits([]int{1}, slices.Repeat([]api.Stir{turn(0, 0)}, api.MaxStirs)...)
	if e, n := pit.Check(full); e != api.OK || n != 0 {
		t.Error("P4.2: as many steps as can be:", e, n)
	}
	if e, n := pit.Check(more(full, turn(0, 0))); e != api.ErrLimit || n != 0 {
		t.Error("P4.2: a step too many:", e, n)
	}
	full.Stirs[59] = api.Stir{}
	if e, n := pit.Check(full); e != api.ErrForm || n != 60 {
		t.Error("P4.2: the last step:", e, n)
	}
}

// TestFormed: each field of each kind is changed; behind steps until day 5, the pits 0 and 1 have 1000 each, and the pit 2 is empty.
func TestFormed(t *testing.T) {
	before := pits([]int{2000, 2000, 2000}, pour(1, 0, 0, 1000), pour(2, 5, 1, 1000))
	ends := []int{math.MinInt, math.MaxInt, -1}
	for _, x := range []struct {
		name  string
		step  api.Stir
		field func(s *api.Stir) *int
		right []int
		wrong []int
	}{
		{"pour ID", pour(3, 5, 0, 1), id, []int{3, api.MaxID}, []int{0, api.MaxID + 1}},
		{"pour day", pour(3, 5, 0, 1), day, []int{5, 6, api.MaxDay}, []int{4, 0, api.MaxDay + 1}},
		{"pour pit", pour(3, 5, 0, 1), place, []int{0, 1, 2}, []int{3}},
		{"pour to", pour(3, 5, 0, 1), to, []int{0}, []int{1, 2, 3}},
		{"pour amount", pour(3, 5, 0, 1), amount, []int{1, api.MaxAmount}, []int{0, api.MaxAmount + 1}},
		{"take ID", take(3, 5, 0, 1), id, []int{3, api.MaxID}, []int{0, api.MaxID + 1}},
		{"take day", take(3, 5, 0, 1), day, []int{5, 6, api.MaxDay}, []int{4, 0, api.MaxDay + 1}},
		{"take pit", take(3, 5, 0, 1), place, []int{0, 1}, []int{3}},
		{"take to", take(3, 5, 0, 1), to, []int{0}, []int{1, 2, 3}},
		{"take amount", take(3, 5, 0, 1), amount, []int{1, api.MaxAmount}, []int{0, api.MaxAmount + 1}},
		{"turn ID", turn(5, 0), id, []int{0}, []int{1, 3, api.MaxID}},
		{"turn day", turn(5, 0), day, []int{5, 6, api.MaxDay}, []int{4, 0, api.MaxDay + 1}},
		{"turn pit", turn(5, 0), place, []int{0, 1, 2}, []int{3}},
		{"turn to", turn(5, 0), to, []int{0}, []int{1, 2, 3}},
		{"turn amount", turn(5, 0), amount, []int{0}, []int{1, api.MaxAmount}},
		{"move ID", move(5, 0, 1, 1), id, []int{0}, []int{1, 3, api.MaxID}},
		{"move day", move(5, 0, 1, 1), day, []int{5, 6, api.MaxDay}, []int{4, 0, api.MaxDay + 1}},
		{"move pit", move(5, 0, 2, 1), place, []int{0, 1}, []int{2, 3}},
		{"move pit 0", move(5, 1, 0, 1), place, []int{1}, []int{0, 3}},
		{"move to", move(5, 0, 1, 1), to, []int{1, 2}, []int{0, 3}},
		{"move to 0", move(5, 1, 0, 1), to, []int{0, 2}, []int{1, 3}},
		{"move amount", move(5, 0, 1, 1), amount, []int{1, api.MaxAmount}, []int{0, api.MaxAmount + 1}},
		{"spill ID", spill(5, 0, 1), id, []int{0}, []int{1, 3, api.MaxID}},
		{"spill day", spill(5, 0, 1), day, []int{5, 6, api.MaxDay}, []int{4, 0, api.MaxDay + 1}},
		{"spill pit", spill(5, 0, 1), place, []int{0, 1}, []int{3}},
		{"spill to", spill(5, 0, 1), to, []int{0}, []int{1, 2, 3}},
		{"spill amount", spill(5, 0, 1), amount, []int{1, api.MaxAmount}, []int{0, api.MaxAmount + 1}},
		{"no kind", turn(5, 0), kind, []int{api.StTurn}, []int{0, 1, 2, 4, 5, 6}},
		{"no kind of those with IDs", pour(3, 5, 0, 1), kind, []int{api.StPour, api.StTake}, []int{0, 3, 4, 5, 6}},
		{"no kind of those without IDs", spill(5, 0, 1), kind, []int{api.StSpill}, []int{0, 1, 2, 3, 4, 6}},
		{"no kind of those with a further pit", move(5, 0, 1, 1), kind, []int{api.StMove}, []int{0, 1, 2, 3, 5, 6}},
	} {
		for _, n := range x.right {
			s := x.step
			*x.field(&s) = n
			if e, at := pit.Check(more(before, s)); e != api.OK || at != 0 {
				t.Error("P4.2:", x.name, n, e, at)
			}
		}
		for _, n := range append(slices.Clone(ends), x.wrong...) {
			s := x.step
			*x.field(&s) = n
			if e, at := pit.Check(more(before, s)); e != api.ErrForm || at != 3 {
				t.Error("P4.2:", x.name, n, e, at)
			}
		}
	}
}

func id(s *api.Stir) *int     { return &s.ID }
func kind(s *api.Stir) *int   { return &s.Kind }
func day(s *api.Stir) *int    { return &s.Day }
func place(s *api.Stir) *int  { return &s.Pit }
func to(s *api.Stir) *int     { return &s.To }
func amount(s *api.Stir) *int { return &s.Amount }

// TestStepErrors: pit 0 has 10 of its 20, pit 1 has 5 of its 8, and pit 2 none of its 3; there is a barrow 11.
func TestStepErrors(t *testing.T) {
	before := pits([]int{20, 8, 3}, pour(1, 0, 0, 12), pour(2, 0, 1, 5), take(11, 0, 0, 2))
	for _, x := range []struct {
		name string
		step api.Stir
		want api.Errno
	}{
		{"pour that is there", pour(1, 0, 0, 1), api.ErrTwice},
		{"pour that is there in another pit", pour(1, 0, 2, 1), api.ErrTwice},
		{"pour with the ID of a barrow", pour(11, 0, 0, 1), api.ErrTwice},
		{"barrow that is there", take(11, 0, 0, 1), api.ErrTwice},
		{"barrow with the ID of a pour", take(2, 0, 0, 1), api.ErrTwice},
		{"pour that is there, and too much", pour(1, 0, 0, 11), api.ErrTwice},
		{"barrow that is there, and too much", take(11, 0, 0, 11), api.ErrTwice},
		{"take all", take(12, 0, 0, 10), api.OK},
		{"take too much", take(12, 0, 0, 11), api.ErrState},
		{"take out of nothing", take(12, 0, 2, 1), api.ErrState},
		{"spill all", spill(0, 0, 10), api.OK},
		{"spill too much", spill(0, 0, 11), api.ErrState},
		{"spill out of nothing", spill(0, 2, 1), api.ErrState},
		{"pour until it is full", pour(3, 0, 0, 10), api.OK},
		{"pour too much", pour(3, 0, 0, 11), api.ErrLimit},
		{"pour too much into nothing", pour(3, 0, 2, 4), api.ErrLimit},
		{"pour until an empty one is full", pour(3, 0, 2, 3), api.OK},
		{"move until it is full", move(0, 0, 1, 3), api.OK},
		{"move too much for it", move(0, 0, 1, 4), api.ErrLimit},
		{"move all", move(0, 1, 0, 5), api.OK},
		{"move more than all", move(0, 1, 0, 6), api.ErrState},
		{"move more than all, and too much for it", move(0, 1, 2, 6), api.ErrState},
		{"move too much for an empty one", move(0, 1, 2, 4), api.ErrLimit},
		{"move out of nothing", move(0, 2, 0, 1), api.ErrState},
		{"turn", turn(0, 0), api.OK},
		{"turn nothing", turn(0, 2), api.OK},
		{"not formed, and there is a barrow", take(11, 0, 9, 1), api.ErrForm},
		{"not formed, and there is a pour", pour(1, 0, 0, 0), api.ErrForm},
	} {
		p := more(before, x.step, turn(0, 0))
		want := 4
		if x.want == api.OK {
			want = 0
		}
		if e, n := pit.Check(p); e != x.want || n != want {
			t.Error("P4.2:", x.name, e, n)
		}
		if x.want != api.OK {
			// What a later step would be wrong about is not found.
			if e, n := pit.Check(more(p, take(11, 0, 0, 1))); e != x.want || n != 4 {
				t.Error("P4.2: with a further error:", x.name, e, n)
			}
		}
	}
}

// primes is pits in which pour 1 lies in three parcels: 1/127 and 126/127 of it, mixed with pour 2, in pit 0, and 1/131, mixed with pour 3, in pit 2.
func primes(stirs ...api.Stir) api.Pits {
	return more(pits([]int{300, 300, 300},
		pour(1, 0, 0, 2), move(0, 0, 2, 1), pour(2, 0, 0, 126), turn(0, 0), pour(3, 0, 2, 130), turn(0, 2)), stirs...)
}

// TestRange: all parts of all parcels are fine, until they are divided or added.
func TestRange(t *testing.T) {
	// A parcel of 999 with 1/128 of pour 1, of which 128 can be taken and have a fine part; what stays then has not.
	uneven := pits([]int{2000, 2000},
		pour(1, 0, 0, 1), pour(2, 0, 0, 127), turn(0, 0), move(0, 0, 1, 1), pour(3, 0, 1, 998), turn(0, 1))
	both := []api.Stir{move(0, 0, 1, 1), move(0, 2, 1, 1)}
	apart := []api.Stir{move(0, 0, 1, 1), move(0, 2, 1, 1), move(0, 0, 1, 126)}
	close := []api.Stir{move(0, 0, 1, 1), move(0, 0, 1, 126), move(0, 2, 1, 1)}
	for _, x := range []struct {
		name string
		p    api.Pits
		step api.Stir
		want api.Errno
	}{
		{"what is taken is fine, what stays not", uneven, take(11, 0, 1, 128), api.ErrRange},
		{"what stays is fine, what is taken not", uneven, take(11, 0, 1, 871), api.ErrRange},
		{"neither is fine", uneven, take(11, 0, 1, 1), api.ErrRange},
		{"all is taken", uneven, take(11, 0, 1, 999), api.OK},
		{"what is moved is fine, what stays not", uneven, move(0, 1, 0, 128), api.ErrRange},
		{"what stays is fine, what is moved not", uneven, move(0, 1, 0, 871), api.ErrRange},
		{"all is moved", uneven, move(0, 1, 0, 999), api.OK},
		{"what is lost is fine, what stays not", uneven, spill(0, 1, 128), api.ErrRange},
		{"what stays is fine, what is lost not", uneven, spill(0, 1, 871), api.ErrRange},
		{"all is lost", uneven, spill(0, 1, 999), api.OK},
		{"turned alone", uneven, turn(0, 1), api.OK},
		{"the sum of a barrow", primes(both...), take(11, 0, 1, 2), api.ErrRange},
		{"the sum of what is mixed", primes(both...), turn(0, 1), api.ErrRange},
		{"the sum of what is lost", primes(both...), spill(0, 1, 2), api.ErrRange},
		{"what is moved has no sum", primes(both...), move(0, 1, 0, 2), api.OK},
		{"one of both alone", primes(both...), take(11, 0, 1, 1), api.OK},
		{"a sum on the way of a barrow", primes(apart...), take(11, 0, 1, 128), api.ErrRange},
		{"a sum on the way of what is mixed", primes(apart...), turn(0, 1), api.ErrRange},
		{"a sum on the way of what is lost", primes(apart...), spill(0, 1, 128), api.ErrRange},
		{"parcels that are moved", primes(apart...), move(0, 1, 0, 128), api.OK},
		{"in another order a barrow", primes(close...), take(11, 0, 1, 128), api.OK},
		{"in another order mixed", primes(close...), turn(0, 1), api.OK},
		{"in another order lost", primes(close...), spill(0, 1, 128), api.OK},
	} {
		want := 0
		if x.want != api.OK {
			want = len(x.p.Stirs) + 1
		}
		right(t, x.p)
		if e, n := pit.Check(more(x.p, x.step)); e != x.want || n != want {
			t.Error("P4.2:", x.name, e, n)
		}
	}
	// ErrTwice, ErrState and ErrLimit come ahead of ErrRange.
	for _, x := range []struct {
		step api.Stir
		want api.Errno
	}{{take(1, 0, 1, 128), api.ErrTwice}, {take(11, 0, 1, 1000), api.ErrState}, {spill(0, 1, 1000), api.ErrState}, {move(0, 1, 2, 128), api.ErrLimit}} {
		p := more(uneven, x.step)
		p.Rooms = []int{2000, 2000, 127}
		if e, n := pit.Check(p); e != x.want || n != 7 {
			t.Error("P4.2:", x, e, n)
		}
	}
}

// TestFineEnds: parts of 1/16384 are fine, those of 1/16385 not.
func TestFineEnds(t *testing.T) {
	for _, x := range []struct {
		first, second int // 1/first of pour 1 is mixed with all but 1 of second
		want          api.Errno
	}{{128, 128, api.OK}, {16, 1024, api.OK}, {113, 145, api.ErrRange}, {127, 129, api.OK}, {5, 3277, api.ErrRange}} {
		p := pits([]int{4096, 4096, 1},
			pour(1, 0, 0, 1), pour(2, 0, 0, x.first-1), turn(0, 0), move(0, 0, 1, 1))
		rest, id := x.second-1, 3
		for rest > 0 {
			some := min(rest, api.MaxAmount)
			p = more(p, pour(id, 0, 1, some))
			rest, id = rest-some, id+1
		}
		p = more(p, turn(0, 1))
		right(t, p)
		p = more(p, take(11, 0, 1, 1))
		if e, _ := pit.Check(p); e != x.want {
			t.Error("P4.2:", x, e)
		}
		if r, e := pit.Barrow(p, 11); x.want == api.OK && (e != api.OK || r[0] != part(1, 1, x.first*x.second)) {
			t.Error("P4.3:", x, r, e)
		}
	}
}

// TestCheckAtRandom: the error of a further step of any sort.
func TestCheckAtRandom(t *testing.T) {
	seen := map[api.Errno]int{}
	many(t, 2, 1000, func(t *testing.T, r *rand.Rand, p api.Pits, m model) {
		if e, n := pit.Check(p); e != api.OK || n != 0 {
			t.Fatal("P4.2:", e, n)
		}
		last := 0
		for _, x := range p.Stirs {
			last = x.Day
		}
		for range 20 {
			x := chanceStir(r, m, last)
			if r.IntN(8) == 0 && len(p.Stirs) > 0 {
				x.ID = p.Stirs[r.IntN(len(p.Stirs))].ID
			}
			if len(p.Stirs) == api.MaxStirs || (x.ID > 0) != (x.Kind <= api.StTake) {
				continue
			}
			want, at := api.OK, 0
			if _, e := m.after(x); e != api.OK {
				want, at = e, len(p.Stirs)+1
			}
			seen[want]++
			if e, n := pit.Check(more(p, x)); e != want || n != at {
				t.Fatal("P4.2:", x, e, n, want)
			}
		}
	})
	for _, e := range []api.Errno{api.OK, api.ErrTwice, api.ErrState, api.ErrLimit, api.ErrRange} {
		if seen[e] < 100 {
			t.Error("too few steps with the error", e, seen)
		}
	}
}

// answers is what all functions with pits answer, each with nothing beside the result.
func answers(t *testing.T, p api.Pits) map[string]api.Errno {
	t.Helper()
	none := api.Ratio{}
	content, content2 := pit.Content(p, 0, 0)
	free, free2 := pit.Free(p, 0, 0)
	pours, pours2 := pit.Pours(p)
	barrows, barrows2 := pit.Barrows(p)
	barrow, barrow2 := pit.Barrow(p, 11)
	share, share2 := pit.Share(p, 11, 1)
	ages, ages2 := pit.Ages(p, 11)
	ripe, ripe2 := pit.Ripe(p, 11, 1)
	fate, left, lost, fate2 := pit.Fate(p, 1)
	least, most, worth2 := pit.Worth(p, 11, nil)
	culprits, culprits2 := pit.Culprits(p, nil)
	blame2 := pit.CheckBlame(p, nil, 1, ratio(0, 1))
	index, cleared, clears2 := pit.Clears(p, nil, 1)
	cut, cut2 := pit.Cut(p, 0)
	swap, same, swap2 := pit.Swap(p, 1)
	if content2 != api.OK && len(content) != 0 || free2 != api.OK && free != 0 || pours2 != api.OK && len(pours) != 0 ||
		barrows2 != api.OK && len(barrows) != 0 || barrow2 != api.OK && len(barrow) != 0 || share2 != api.OK && share != none ||
		ages2 != api.OK && ages != (api.Span{}) || ripe2 != api.OK && ripe != none ||
		fate2 != api.OK && (len(fate) != 0 || left != none || lost != none) || worth2 != api.OK && (least != none || most != none) ||
		culprits2 != api.OK && len(culprits) != 0 || clears2 != api.OK && (index != 0 || cleared) ||
		cut2 != api.OK && !equal(cut, api.Pits{}) || swap2 != api.OK && (!equal(swap, api.Pits{}) || same) {
		t.Error("R4: something is told with an error")
	}
	return map[string]api.Errno{
		"P4.2: Content": content2, "P4.2: Free": free2, "P4.3: Pours": pours2, "P4.3: Barrows": barrows2, "P4.3: Barrow": barrow2, "P4.3: Share": share2,
		"P4.4: Ages": ages2, "P4.4: Ripe": ripe2, "P4.5: Fate": fate2, "P4.6: Worth": worth2,
		"P4.7: Culprits": culprits2, "P4.7: CheckBlame": blame2, "P4.7: Clears": clears2, "P4.8: Cut": cut2, "P4.8: Swap": swap2,
	}
}

// TestCheckFirst: the error of Check is that of all functions with pits, whatever else is wrong.
func TestCheckFirst(t *testing.T) {
	steps := func(stirs ...api.Stir) api.Pits { return pits([]int{10, 10}, stirs...) }
	for _, x := range []struct {
		p    api.Pits
		want api.Errno
	}{
		{api.Pits{}, api.ErrArg},
		{pits([]int{10}, make([]api.Stir, api.MaxStirs+1)...), api.ErrLimit},
		{steps(api.Stir{}), api.ErrForm},
		{steps(pour(1, 0, 0, 1), pour(1, 0, 0, 1)), api.ErrTwice},
		{steps(pour(1, 0, 0, 1), take(11, 0, 0, 2)), api.ErrState},
		{steps(pour(1, 0, 0, 11)), api.ErrLimit},
		{primes(move(0, 0, 1, 1), move(0, 2, 1, 1), turn(0, 1)), api.ErrRange},
		{wrong(), api.ErrState},
	} {
		for name, e := range answers(t, x.p) {
			if e != x.want {
				t.Error(name, e, x.want)
			}
		}
		for _, n := range nowhere() {
			_, e1 := pit.Content(x.p, n, n)
			_, e2 := pit.Free(x.p, n, n)
			_, e3 := pit.Barrow(x.p, n)
			_, e4 := pit.Share(x.p, n, n)
			_, e5 := pit.Ages(x.p, n)
			_, e6 := pit.Ripe(x.p, n, n)
			_, _, _, e7 := pit.Fate(x.p, n)
			_, _, e8 := pit.Worth(x.p, n, make([]api.Grade, 61))
			_, e9 := pit.Culprits(x.p, make([]api.Probe, 21))
			e10 := pit.CheckBlame(x.p, make([]api.Probe, 21), n, api.Ratio{})
			_, _, e11 := pit.Clears(x.p, make([]api.Probe, 21), n)
			_, e12 := pit.Cut(x.p, n)
			_, _, e13 := pit.Swap(x.p, n)
			for i, e := range []api.Errno{e1, e2, e3, e4, e5, e6, e7, e8, e9, e10, e11, e12, e13} {
				if e != x.want {
					t.Error("Check first:", i+1, n, e, x.want)
				}
			}
		}
	}
	for name, e := range answers(t, example()) {
		if e != api.OK {
			t.Error(name, e)
		}
	}
}

package pit_test

import (
	"math"
	"math/big"
	"math/rand/v2"
	"slices"
	"testing"

	"calx/api"
	"calx/pit"
)

func TestExampleContent(t *testing.T) {
	p := example()
	for _, x := range []struct {
		pit, steps int
		want       []api.Parcel
		free       int
	}{
		{0, 0, nil, 100},
		{0, 1, []api.Parcel{{Amount: 30, Parts: []api.Part{part(1, 30)}}}, 70},
		{0, 3, []api.Parcel{{Amount: 20, Parts: []api.Part{part(1, 20)}}, {Amount: 20, Parts: []api.Part{part(2, 20)}}}, 60},
		{0, 4, []api.Parcel{{Amount: 40, Parts: []api.Part{part(1, 20), part(2, 20)}}}, 60},
		{1, 5, nil, 50},
		{1, 6, []api.Parcel{{Amount: 15, Parts: []api.Part{part(1, 15, 2), part(2, 15, 2)}}}, 35},
		{1, 7, []api.Parcel{{Amount: 15, Parts: []api.Part{part(1, 15, 2), part(2, 15, 2)}}, {Amount: 5, Parts: []api.Part{part(3, 5)}}}, 30},
		{1, 8, []api.Parcel{{Amount: 2, Parts: []api.Part{part(3, 2)}}}, 48},
		{0, 8, []api.Parcel{{Amount: 15, Parts: []api.Part{part(1, 15, 2), part(2, 15, 2)}}}, 85},
	} {
		if l, e := pit.Content(p, x.pit, x.steps); e != api.OK || !sameParcels(l, x.want) {
			t.Error("P4.2: Content:", x, l, e)
		}
		if n, e := pit.Free(p, x.pit, x.steps); n != x.free || e != api.OK {
			t.Error("P4.2: Free:", x, n, e)
		}
	}
}

func TestContentErrors(t *testing.T) {
	for _, x := range []struct {
		pit, steps int
		want       api.Errno
	}{
		{0, 0, api.OK}, {1, 8, api.OK}, {2, 0, api.ErrArg}, {-1, 0, api.ErrArg}, {0, 9, api.ErrArg}, {0, -1, api.ErrArg},
		{math.MinInt, 0, api.ErrArg}, {math.MaxInt, 0, api.ErrArg}, {0, math.MinInt, api.ErrArg}, {0, math.MaxInt, api.ErrArg},
	} {
		if l, e := pit.Content(example(), x.pit, x.steps); e != x.want || e != api.OK && len(l) != 0 {
			t.Error("P4.2: Content:", x, l, e)
		}
		if n, e := pit.Free(example(), x.pit, x.steps); e != x.want || e != api.OK && n != 0 {
			t.Error("P4.2: Free:", x, n, e)
		}
		// A wrong step behind those that are asked for is an error, too.
		if l, e := pit.Content(wrong(), x.pit, x.steps); e != api.ErrState || len(l) != 0 {
			t.Error("P4.2: Content of wrong pits:", x, l, e)
		}
		if n, e := pit.Free(wrong(), x.pit, x.steps); e != api.ErrState || n != 0 {
			t.Error("P4.2: Free of wrong pits:", x, n, e)
		}
	}
}

// TestParcels: what one step does with parcels, where an amount ends at the end of one, within one, and behind several.
func TestParcels(t *testing.T) {
	before := pits([]int{20, 20}, pour(3, 0, 0, 2), pour(1, 0, 0, 3), pour(2, 0, 0, 4), pour(4, 0, 1, 5))
	a, b, c, d := part(3, 2), part(1, 3), part(2, 4), part(4, 5)
	one := func(x api.Part) api.Parcel { return api.Parcel{Amount: x.Amount.Num, Parts: []api.Part{x}} }
	for _, x := range []struct {
		name      string
		step      api.Stir
		here, far []api.Parcel
	}{
		{"pour", pour(5, 0, 0, 6), []api.Parcel{one(a), one(b), one(c), one(part(5, 6))}, []api.Parcel{one(d)}},
		{"take within one", take(11, 0, 0, 1), []api.Parcel{one(part(3, 1)), one(b), one(c)}, []api.Parcel{one(d)}},
		{"take one", take(11, 0, 0, 2), []api.Parcel{one(b), one(c)}, []api.Parcel{one(d)}},
		{"take within the second one", take(11, 0, 0, 3), []api.Parcel{one(part(1, 2)), one(c)}, []api.Parcel{one(d)}},
		{"take two", take(11, 0, 0, 5), []api.Parcel{one(c)}, []api.Parcel{one(d)}},
		{"take all but 1", take(11, 0, 0, 8), []api.Parcel{one(part(2, 1))}, []api.Parcel{one(d)}},
		{"take all", take(11, 0, 0, 9), nil, []api.Parcel{one(d)}},
		{"spill within the second one", spill(0, 0, 3), []api.Parcel{one(part(1, 2)), one(c)}, []api.Parcel{one(d)}},
		{"spill all", spill(0, 0, 9), nil, []api.Parcel{one(d)}},
		{"turn", turn(0, 0), []api.Parcel{{Amount: 9, Parts: []api.Part{a, b, c}}}, []api.Parcel{one(d)}},
		{"turn one", turn(0, 1), []api.Parcel{one(a), one(b), one(c)}, []api.Parcel{one(d)}},
		{"move one", move(0, 0, 1, 2), []api.Parcel{one(b), one(c)}, []api.Parcel{one(d), one(a)}},
		{"move within the second one", move(0, 0, 1, 3), []api.Parcel{one(part(1, 2)), one(c)}, []api.Parcel{one(d), one(a), one(part(1, 1))}},
		{"move all", move(0, 0, 1, 9), nil, []api.Parcel{one(d), one(a), one(b), one(c)}},
		{"move from the other one", move(0, 1, 0, 5), []api.Parcel{one(a), one(b), one(c), one(d)}, nil},
	} {
		p := more(before, x.step)
		for i, want := range [][]api.Parcel{x.here, x.far} {
			if l, e := pit.Content(p, i, 5); e != api.OK || !sameParcels(l, want) {
				t.Error("P4.2:", x.name, i, l, e, want)
			}
		}
	}
}

// TestKept: a parcel that was divided stays as it was divided, whatever comes behind it, or into the pit to which a part of it went.
func TestKept(t *testing.T) {
	p := pits([]int{90, 90}, pour(1, 0, 0, 10), pour(2, 0, 0, 10), pour(3, 0, 0, 10),
		move(0, 0, 1, 5), move(0, 0, 1, 10), pour(4, 0, 1, 7), pour(5, 0, 0, 8), move(0, 1, 0, 12), move(0, 0, 1, 3), take(11, 0, 0, 30), take(12, 0, 1, 13))
	m := right(t, p)
	for i, want := range [][]api.Part{{part(1, 10), part(2, 2), part(3, 10), part(5, 8)}, {part(2, 6), part(4, 7)}} {
		if l, e := pit.Barrow(p, 11+i); e != api.OK || !slices.Equal(l, want) || !slices.Equal(l, m.list(m.barrows[i].parts)) {
			t.Error("P4.3:", i, l, e, want)
		}
	}
}

func TestContent(t *testing.T) {
	many(t, 3, 1000, func(t *testing.T, r *rand.Rand, p api.Pits, m model) {
		steps := r.IntN(len(p.Stirs) + 1)
		if r.IntN(2) == 0 {
			steps = len(p.Stirs)
		}
		m, _, _ = modelOf(pits(p.Rooms, p.Stirs[:steps]...))
		for i, room := range p.Rooms {
			if l, e := pit.Content(p, i, steps); e != api.OK || !sameParcels(l, m.content(i)) {
				t.Fatal("P4.2: Content:", i, steps, l, e, m.content(i))
			}
			if n, e := pit.Free(p, i, steps); n != room-amountOf(m.pits[i]) || e != api.OK {
				t.Fatal("P4.2: Free:", i, steps, n, e)
			}
		}
	})
}

func TestExampleBarrows(t *testing.T) {
	p := example()
	if l, e := pit.Pours(p); e != api.OK || !slices.Equal(l, []int{1, 2, 3}) {
		t.Error("P4.3: Pours:", l, e)
	}
	if l, e := pit.Barrows(p); e != api.OK || !slices.Equal(l, []int{11, 12, 13}) {
		t.Error("P4.3: Barrows:", l, e)
	}
	for _, x := range []struct {
		id     int
		want   []api.Part
		shares [3]api.Ratio
		ages   api.Span
	}{
		{11, []api.Part{part(1, 10)}, [3]api.Ratio{ratio(1, 1), ratio(0, 1), ratio(0, 1)}, span(3, 3)},
		{12, []api.Part{part(1, 5), part(2, 5)}, [3]api.Ratio{ratio(1, 2), ratio(1, 2), ratio(0, 1)}, span(7, 9)},
		{13, []api.Part{part(1, 15, 2), part(2, 15, 2), part(3, 3)}, [3]api.Ratio{ratio(5, 12), ratio(5, 12), ratio(1, 6)}, span(2, 12)},
	} {
		if l, e := pit.Barrow(p, x.id); e != api.OK || !slices.Equal(l, x.want) {
			t.Error("P4.3: Barrow:", x.id, l, e)
		}
		for i, want := range x.shares {
			if r, e := pit.Share(p, x.id, i+1); r != want || e != api.OK {
				t.Error("P4.3: Share:", x.id, i+1, r, e)
			}
		}
		if s, e := pit.Ages(p, x.id); s != x.ages || e != api.OK {
			t.Error("P4.4: Ages:", x.id, s, e)
		}
	}
	for _, x := range []struct {
		id, days int
		want     api.Ratio
	}{
		{12, 8, ratio(1, 2)}, {13, 5, ratio(5, 6)}, {13, 0, ratio(1, 1)}, {13, 2, ratio(1, 1)}, {13, 3, ratio(5, 6)}, {13, 10, ratio(5, 6)}, {13, 11, ratio(5, 12)},
		{13, 12, ratio(5, 12)}, {13, 13, ratio(0, 1)}, {13, api.MaxDay, ratio(0, 1)}, {11, 3, ratio(1, 1)}, {11, 4, ratio(0, 1)},
	} {
		if r, e := pit.Ripe(p, x.id, x.days); r != x.want || e != api.OK {
			t.Error("P4.4: Ripe:", x, r, e)
		}
	}
	none := pits([]int{5})
	if l, e := pit.Pours(none); len(l) != 0 || e != api.OK {
		t.Error("P4.3: no pours:", l, e)
	}
	if l, e := pit.Barrows(none); len(l) != 0 || e != api.OK {
		t.Error("P4.3: no barrows:", l, e)
	}
}

func TestOldest(t *testing.T) {
	p := pits([]int{9}, pour(1, 0, 0, 2), pour(2, api.MaxDay, 0, 2), take(11, api.MaxDay, 0, 3), take(12, api.MaxDay, 0, 1))
	if s, e := pit.Ages(p, 11); s != span(0, api.MaxDay) || e != api.OK {
		t.Error("P4.4: Ages:", s, e)
	}
	if s, e := pit.Ages(p, 12); s != span(0, 0) || e != api.OK {
		t.Error("P4.4: Ages:", s, e)
	}
	p = pits([]int{9}, pour(1, 0, 0, 2), take(11, api.MaxDay, 0, 2))
	if s, e := pit.Ages(p, 11); s != span(api.MaxDay, api.MaxDay) || e != api.OK {
		t.Error("P4.4: Ages:", s, e)
	}
	if r, e := pit.Ripe(p, 11, api.MaxDay); r != ratio(1, 1) || e != api.OK {
		t.Error("P4.4: Ripe:", r, e)
	}
}

// TestNone: a pour is no barrow, and a barrow is no pour.
func TestNone(t *testing.T) {
	p := example()
	for _, x := range []struct {
		barrow, pour int
		want         api.Errno
	}{
		{11, 1, api.OK}, {1, 1, api.ErrNone}, {11, 11, api.ErrNone}, {11, 4, api.ErrNone}, {14, 1, api.ErrNone}, {11, 0, api.ErrNone}, {0, 1, api.ErrNone}, {0, 0, api.ErrNone},
		{-1, 1, api.ErrNone}, {11, -1, api.ErrNone}, {math.MinInt, 1, api.ErrNone}, {11, math.MaxInt, api.ErrNone},
	} {
		if r, e := pit.Share(p, x.barrow, x.pour); e != x.want || e != api.OK && r != (api.Ratio{}) {
			t.Error("P4.3: Share:", x, r, e)
		}
		if x.pour == 1 {
			l, e := pit.Barrow(p, x.barrow)
			if e != x.want || e != api.OK && len(l) != 0 {
				t.Error("P4.3: Barrow:", x, l, e)
			}
			s, e := pit.Ages(p, x.barrow)
			if e != x.want || e != api.OK && s != (api.Span{}) {
				t.Error("P4.4: Ages:", x, s, e)
			}
			r, e := pit.Ripe(p, x.barrow, 0)
			if e != x.want || e != api.OK && r != (api.Ratio{}) {
				t.Error("P4.4: Ripe:", x, r, e)
			}
		}
		if x.barrow == 11 {
			l, left, lost, e := pit.Fate(p, x.pour)
			if e != x.want || e != api.OK && (len(l) != 0 || left != (api.Ratio{}) || lost != (api.Ratio{})) {
				t.Error("P4.5: Fate:", x, l, left, lost, e)
			}
		}
	}
	for _, days := range []int{-1, api.MaxDay + 1, math.MinInt, math.MaxInt} {
		for _, id := range []int{11, 14} {
			if r, e := pit.Ripe(p, id, days); r != (api.Ratio{}) || e != api.ErrArg {
				t.Error("P4.4: Ripe:", id, days, r, e)
			}
		}
	}
}

// divided is the sum of parts of a barrow, each times a number, as it is told, divided by its amount; or whether it cannot be told.
func divided(m model, b filled, weight func(x api.Stir) int) (api.Ratio, api.Errno) {
	var l []*big.Rat
	for _, x := range m.pours {
		l = append(l, new(big.Rat).Mul(b.parts.of(x.ID), of(weight(x), 1)))
	}
	all, ok := added(l, api.MaxDenom)
	if !ok || !isTold(all.Mul(all, of(1, b.stir.Amount))) {
		return api.Ratio{}, api.ErrRange
	}
	return lowest(all), api.OK
}

func TestBarrows(t *testing.T) {
	shared := 0
	many(t, 4, 400, func(t *testing.T, r *rand.Rand, p api.Pits, m model) {
		pours, barrows := m.ids()
		if l, e := pit.Pours(p); e != api.OK || !slices.Equal(l, pours) {
			t.Fatal("P4.3: Pours:", l, e)
		}
		if l, e := pit.Barrows(p); e != api.OK || !slices.Equal(l, barrows) {
			t.Fatal("P4.3: Barrows:", l, e)
		}
		for _, b := range m.barrows {
			id := b.stir.ID
			if l, e := pit.Barrow(p, id); e != api.OK || !slices.Equal(l, m.list(b.parts)) {
				t.Fatal("P4.3: Barrow:", id, l, e)
			}
			ages, all := []int{}, new(big.Rat)
			for _, x := range m.pours {
				got, e := pit.Share(p, id, x.ID)
				if got != lowest(b.share(x.ID)) || e != api.OK {
					t.Fatal("P4.3: Share:", id, x.ID, got, e)
				}
				if got.Num > 0 {
					ages = append(ages, b.stir.Day-x.Day)
				}
				all.Add(all, exact(got))
			}
			if len(ages) > 1 {
				shared++
			}
			if all.Cmp(of(1, 1)) != 0 {
				t.Fatal("P4.9: the shares are not together 1:", id, all)
			}
			if s, e := pit.Ages(p, id); s != span(slices.Min(ages), slices.Max(ages)) || e != api.OK {
				t.Fatal("P4.4: Ages:", id, s, e)
			}
			for _, days := range append(ages, r.IntN(api.MaxDay+1), slices.Min(ages)+1) {
				want, fails := divided(m, b, func(x api.Stir) int {
					if b.stir.Day-x.Day >= days {
						return 1
					}
					return 0
				})
				if got, e := pit.Ripe(p, id, days); got != want || e != fails {
					t.Fatal("P4.4: Ripe:", id, days, got, e, want, fails)
				}
			}
		}
	})
	if shared < 500 {
		t.Error("too few barrows with several pours:", shared)
	}
}

func TestExampleFate(t *testing.T) {
	p := example()
	for _, x := range []struct {
		pour int
		in   []api.Part
		left api.Ratio
		lost api.Ratio
	}{
		{1, []api.Part{part(11, 10), part(12, 5), part(13, 15, 2)}, ratio(15, 2), ratio(0, 1)},
		{2, []api.Part{part(12, 5), part(13, 15, 2)}, ratio(15, 2), ratio(0, 1)},
		{3, []api.Part{part(13, 3)}, ratio(2, 1), ratio(0, 1)},
	} {
		if l, left, lost, e := pit.Fate(p, x.pour); !slices.Equal(l, x.in) || left != x.left || lost != x.lost || e != api.OK {
			t.Error("P4.5:", x, l, left, lost, e)
		}
	}
	p = more(p, spill(12, 0, 4), move(12, 0, 1, 3), spill(13, 1, 4), pour(4, 14, 0, 8))
	if l, left, lost, e := pit.Fate(p, 2); !slices.Equal(l, []api.Part{part(12, 5), part(13, 15, 2)}) || left != ratio(9, 2) || lost != ratio(3, 1) || e != api.OK {
		t.Error("P4.5:", l, left, lost, e)
	}
	if l, left, lost, e := pit.Fate(p, 4); len(l) != 0 || left != ratio(8, 1) || lost != ratio(0, 1) || e != api.OK {
		t.Error("P4.5:", l, left, lost, e)
	}
	if l, left, lost, e := pit.Fate(p, 3); !slices.Equal(l, []api.Part{part(13, 3)}) || left != ratio(0, 1) || lost != ratio(2, 1) || e != api.OK {
		t.Error("P4.5:", l, left, lost, e)
	}
}

// fateOf is how much of a pour is where, added in the order of the chapter, and whether it can be told.
func fateOf(m model, pour int) (in []api.Part, left, lost *big.Rat, ok bool) {
	for _, b := range m.barrows {
		if x := b.parts[pour]; x != nil {
			in = append(in, api.Part{Pour: b.stir.ID, Amount: lowest(x)})
		}
	}
	var here, gone []*big.Rat
	for _, l := range m.pits {
		for _, h := range l {
			here = append(here, h.parts.of(pour))
		}
	}
	for _, a := range m.lost {
		gone = append(gone, a.of(pour))
	}
	left, isLeft := added(here, api.MaxDenom)
	lost, isLost := added(gone, api.MaxDenom)
	return in, left, lost, isLeft && isLost
}

func TestFate(t *testing.T) {
	many(t, 5, 1000, func(t *testing.T, r *rand.Rand, p api.Pits, m model) {
		for _, x := range m.pours {
			in, left, lost, ok := fateOf(m, x.ID)
			l, a, b, e := pit.Fate(p, x.ID)
			if !ok {
				if len(l) != 0 || a != (api.Ratio{}) || b != (api.Ratio{}) || e != api.ErrRange {
					t.Fatal("P4.5: out of range:", x.ID, l, a, b, e)
				}
				continue
			}
			if !slices.Equal(l, in) || a != lowest(left) || b != lowest(lost) || e != api.OK {
				t.Fatal("P4.5:", x.ID, l, a, b, e)
			}
			all := new(big.Rat).Add(exact(a), exact(b))
			for _, y := range l {
				all.Add(all, exact(y.Amount))
			}
			if all.Cmp(of(x.Amount, 1)) != 0 {
				t.Fatal("P4.9: of so much that was poured so much is told:", x.Amount, all)
			}
		}
	})
}

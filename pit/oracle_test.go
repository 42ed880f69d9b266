package pit_test

import (
	"maps"
	"math/big"
	"math/rand/v2"
	"slices"
	"testing"

	"calx/api"
)

func span(lo, hi int) api.Span { return api.Span{Lo: lo, Hi: hi} }

func ratio(num, den int) api.Ratio { return api.Ratio{Num: num, Den: den} }

func pour(id, day, pit, amount int) api.Stir {
	return api.Stir{ID: id, Kind: api.StPour, Day: day, Pit: pit, Amount: amount}
}

func take(id, day, pit, amount int) api.Stir {
	return api.Stir{ID: id, Kind: api.StTake, Day: day, Pit: pit, Amount: amount}
}

func turn(day, pit int) api.Stir { return api.Stir{Kind: api.StTurn, Day: day, Pit: pit} }

func move(day, pit, to, amount int) api.Stir {
	return api.Stir{Kind: api.StMove, Day: day, Pit: pit, To: to, Amount: amount}
}

func spill(day, pit, amount int) api.Stir {
	return api.Stir{Kind: api.StSpill, Day: day, Pit: pit, Amount: amount}
}

func pits(rooms []int, stirs ...api.Stir) api.Pits { return api.Pits{Rooms: rooms, Stirs: stirs} }

// more is pits with further steps.
func more(p api.Pits, stirs ...api.Stir) api.Pits {
	return pits(p.Rooms, slices.Concat(p.Stirs, stirs)...)
}

// example is the pits of the chapter's examples.
func example() api.Pits {
	return pits([]int{100, 50},
		pour(1, 0, 0, 30), pour(2, 2, 0, 20), take(11, 3, 0, 10), turn(4, 0),
		take(12, 9, 0, 10), move(9, 0, 1, 15), pour(3, 10, 1, 5), take(13, 12, 1, 18))
}

// wrong is pits that Check does not accept: a step is the first one that does not go.
func wrong() api.Pits { return more(example(), spill(12, 0, 16)) }

// clone is pits that share no memory with others.
func clone(p api.Pits) api.Pits {
	return pits(slices.Clone(p.Rooms), slices.Clone(p.Stirs)...)
}

func equal(p, q api.Pits) bool {
	return slices.Equal(p.Rooms, q.Rooms) && slices.Equal(p.Stirs, q.Stirs)
}

// part is an amount of a pour; whole numbers are told by their numerators alone.
func part(id, num int, den ...int) api.Part {
	return api.Part{Pour: id, Amount: ratio(num, append(den, 1)[0])}
}

func of(num, den int) *big.Rat { return big.NewRat(int64(num), int64(den)) }

func exact(r api.Ratio) *big.Rat { return of(r.Num, r.Den) }

// lowest is a fraction in lowest terms.
func lowest(r *big.Rat) api.Ratio {
	return ratio(int(r.Num().Int64()), int(r.Denom().Int64()))
}

// isTold is whether a fraction can be told.
func isTold(r *big.Rat) bool {
	return r.Sign() >= 0 && r.Num().Cmp(big.NewInt(1<<36)) <= 0 && r.Denom().Cmp(big.NewInt(api.MaxDenom)) <= 0
}

// added is fractions added one by one, and whether no sum has too great a denominator.
func added(l []*big.Rat, most int64) (*big.Rat, bool) {
	all := new(big.Rat)
	for _, x := range l {
		all.Add(all, x)
		if all.Denom().Cmp(big.NewInt(most)) > 0 || all.Num().Cmp(big.NewInt(1<<36)) > 0 {
			return nil, false
		}
	}
	return all, true
}

// amounts is an exact amount of each pour.
type amounts map[int]*big.Rat

func (a amounts) of(pour int) *big.Rat {
	if x := a[pour]; x != nil {
		return x
	}
	return new(big.Rat)
}

// heap is a parcel as it is told in the chapter.
type heap struct {
	amount int
	parts  amounts
}

// scaled is n out of all of a heap.
func scaled(h heap, n int) heap {
	parts := amounts{}
	for id, x := range h.parts {
		parts[id] = new(big.Rat).Mul(x, of(n, h.amount))
	}
	return heap{n, parts}
}

// cutAt lays heaps one behind the other, and cuts all of them where an amount lies ahead.
func cutAt(l []heap, amount int) (taken, left []heap) {
	at := 0
	for _, h := range l {
		over := min(max(amount-at, 0), h.amount)
		if over > 0 {
			taken = append(taken, scaled(h, over))
		}
		if over < h.amount {
			left = append(left, scaled(h, h.amount-over))
		}
		at += h.amount
	}
	return taken, left
}

// together is the sums of the parts of heaps, and whether all of them are fine.
func together(l []heap) (amounts, bool) {
	each := map[int][]*big.Rat{}
	for _, h := range l {
		for id, x := range h.parts {
			each[id] = append(each[id], x)
		}
	}
	parts, fine := amounts{}, true
	for id, list := range each {
		x, ok := added(list, api.MaxFine)
		parts[id], fine = x, fine && ok
	}
	return parts, fine
}

func areFine(l []heap) bool {
	for _, h := range l {
		for _, x := range h.parts {
			if x.Denom().Cmp(big.NewInt(api.MaxFine)) > 0 {
				return false
			}
		}
	}
	return true
}

func amountOf(l []heap) int {
	n := 0
	for _, h := range l {
		n += h.amount
	}
	return n
}

// filled is a barrow with all that is in it.
type filled struct {
	stir  api.Stir
	parts amounts
}

// model is pits behind some steps.
type model struct {
	rooms   []int
	pits    [][]heap
	pours   []api.Stir
	barrows []filled
	lost    []amounts
}

func (m model) clone() model {
	return model{m.rooms, slices.Clone(m.pits), slices.Clone(m.pours), slices.Clone(m.barrows), slices.Clone(m.lost)}
}

func (m model) isNamed(id int) bool {
	return slices.ContainsFunc(m.pours, func(x api.Stir) bool { return x.ID == id }) ||
		slices.ContainsFunc(m.barrows, func(b filled) bool { return b.stir.ID == id })
}

// after is pits behind a further step that is formed, or the step's error.
func (m model) after(x api.Stir) (model, api.Errno) {
	m = m.clone()
	here := m.pits[x.Pit]
	comes := x.Kind == api.StPour || x.Kind == api.StMove
	goes := x.Kind == api.StTake || x.Kind == api.StMove || x.Kind == api.StSpill
	to := x.To
	if x.Kind == api.StPour {
		to = x.Pit
	}
	if (x.Kind == api.StPour || x.Kind == api.StTake) && m.isNamed(x.ID) {
		return m, api.ErrTwice
	}
	if goes && amountOf(here) < x.Amount {
		return m, api.ErrState
	}
	if comes && amountOf(m.pits[to])+x.Amount > m.rooms[to] {
		return m, api.ErrLimit
	}
	taken, left := cutAt(here, x.Amount)
	if !goes {
		taken, left = nil, here
	}
	parts, fine := together(taken)
	if !areFine(taken) || !areFine(left) || !fine && x.Kind != api.StMove {
		return m, api.ErrRange
	}
	m.pits[x.Pit] = left
	switch x.Kind {
	case api.StPour:
		m.pours = append(m.pours, x)
		m.pits[to] = slices.Concat(left, []heap{{x.Amount, amounts{x.ID: of(x.Amount, 1)}}})
	case api.StTake:
		m.barrows = append(m.barrows, filled{x, parts})
	case api.StTurn:
		all, fine := together(left)
		if !fine {
			return m, api.ErrRange
		}
		if len(left) > 0 {
			m.pits[x.Pit] = []heap{{amountOf(left), all}}
		}
	case api.StMove:
		m.pits[to] = slices.Concat(m.pits[to], taken)
	case api.StSpill:
		m.lost = append(m.lost, parts)
	}
	return m, api.OK
}

// start is pits ahead of all steps.
func start(rooms []int) model { return model{rooms: rooms, pits: make([][]heap, len(rooms))} }

// modelOf is pits behind all steps, or the first error and the number of its step.
func modelOf(p api.Pits) (model, api.Errno, int) {
	m := start(p.Rooms)
	for i, x := range p.Stirs {
		next, e := m.after(x)
		if e != api.OK {
			return model{}, e, i + 1
		}
		m = next
	}
	return m, api.OK, 0
}

// right is pits behind all steps, which are right.
func right(t *testing.T, p api.Pits) model {
	t.Helper()
	m, e, step := modelOf(p)
	if e != api.OK {
		t.Fatal("the pits are wrong:", e, step)
	}
	return m
}

// list is the parts of a mix, in the order of pours.
func (m model) list(a amounts) []api.Part {
	var l []api.Part
	for _, x := range m.pours {
		if amount := a[x.ID]; amount != nil {
			l = append(l, api.Part{Pour: x.ID, Amount: lowest(amount)})
		}
	}
	return l
}

// content is the parcels of a pit.
func (m model) content(pit int) []api.Parcel {
	var l []api.Parcel
	for _, h := range m.pits[pit] {
		l = append(l, api.Parcel{Amount: h.amount, Parts: m.list(h.parts)})
	}
	return l
}

func sameParcels(a, b []api.Parcel) bool {
	return slices.EqualFunc(a, b, func(x, y api.Parcel) bool { return x.Amount == y.Amount && slices.Equal(x.Parts, y.Parts) })
}

func sameAmounts(a, b amounts) bool {
	return maps.EqualFunc(a, b, func(x, y *big.Rat) bool { return x.Cmp(y) == 0 })
}

// isLike is whether all barrows and pits are the same; a barrow has its place among the others by its ID.
func (m model) isLike(o model) bool {
	for _, b := range m.barrows {
		i := slices.IndexFunc(o.barrows, func(c filled) bool { return b.stir.ID == c.stir.ID })
		if !sameAmounts(b.parts, o.barrows[i].parts) {
			return false
		}
	}
	for i, l := range m.pits {
		if !slices.EqualFunc(l, o.pits[i], func(x, y heap) bool { return x.amount == y.amount && sameAmounts(x.parts, y.parts) }) {
			return false
		}
	}
	return true
}

// share is which share of a barrow is of a pour.
func (b filled) share(pour int) *big.Rat {
	return new(big.Rat).Mul(b.parts.of(pour), of(1, b.stir.Amount))
}

// ids is the IDs of pours and of barrows.
func (m model) ids() (pours, barrows []int) {
	for _, x := range m.pours {
		pours = append(pours, x.ID)
	}
	for _, b := range m.barrows {
		barrows = append(barrows, b.stir.ID)
	}
	return pours, barrows
}

// chanceAmount is an amount: often 1, all of a pit, all but 1, or its first parcels.
func chanceAmount(r *rand.Rand, l []heap) int {
	all := amountOf(l)
	switch r.IntN(12) {
	case 0:
		return all
	case 1:
		return all - 1
	case 2:
		return amountOf(l[:r.IntN(len(l)+1)])
	case 3, 4:
		return 1
	}
	return 1 + r.IntN(1+all/(1+r.IntN(4)))
}

// chanceStir is a step, of which nothing but its form is right.
func chanceStir(r *rand.Rand, m model, day int) api.Stir {
	day = min(day+r.IntN(8)/4*r.IntN(30), api.MaxDay)
	id := 1 + r.IntN(1000)
	pit := r.IntN(len(m.rooms))
	to := r.IntN(len(m.rooms))
	some := min(max(chanceAmount(r, m.pits[pit]), 1), api.MaxAmount)
	switch n := r.IntN(12); {
	case n < 4 || n < 11 && len(m.pits[pit]) == 0:
		return pour(id, day, pit, 1+r.IntN(min(1+m.rooms[pit]/(1+r.IntN(9)), api.MaxAmount)))
	case n < 7:
		return turn(day, pit)
	case n < 9:
		return take(id, day, pit, some)
	case n < 11 && pit != to:
		return move(day, pit, to, some)
	}
	return spill(day, pit, some)
}

// chancePits is pits with some steps, all of which are right.
func chancePits(r *rand.Rand) (api.Pits, model) {
	p := api.Pits{}
	for range 1 + r.IntN(4) {
		p.Rooms = append(p.Rooms, 5+r.IntN(8<<r.IntN(9)))
	}
	m, day := start(p.Rooms), 0
	for range r.IntN(api.MaxStirs + 1) {
		x := chanceStir(r, m, day)
		if next, e := m.after(x); e == api.OK {
			m, day = next, x.Day
			p.Stirs = append(p.Stirs, x)
		}
	}
	return p, m
}

// many calls a test with many pits.
func many(t *testing.T, seed uint64, rounds int, test func(t *testing.T, r *rand.Rand, p api.Pits, m model)) {
	t.Helper()
	r := rand.New(rand.NewPCG(seed, 1))
	for range rounds {
		p, m := chancePits(r)
		test(t, r, p, m)
		if t.Failed() {
			t.Fatalf("pits: %+v", p)
		}
	}
}

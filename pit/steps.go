package pit

import (
	"slices"

	"calx/api"
)

// The kinds of steps, numbered as package api numbers them.
const (
	pouring = api.StPour + iota
	taking
	turning
	moving
	spilling
)

// fault is an error of a step.
type fault struct {
	err  api.Errno
	step int
}

// follow does steps one after the other. It returns how the pits stand behind them, or the first error, and the number of the step.
func follow(rooms []int, stirs []api.Stir) (s *stand, e api.Errno, step int) {
	defer func() {
		if f, ok := recover().(fault); ok {
			s, e, step = nil, f.err, f.step
		}
	}()
	s = empty(rooms)
	does := s.does()
	for _, x := range stirs {
		s.step++
		s.demand(s.isFormed(x), api.ErrForm)
		does[x.Kind](x)
		s.day = x.Day
	}
	return s, api.OK, 0
}

// does returns what a step does, by its kind.
func (s *stand) does() map[int]func(api.Stir) {
	return map[int]func(api.Stir){
		pouring:  s.pour,
		taking:   s.take,
		turning:  s.turn,
		moving:   s.move,
		spilling: s.spill,
	}
}

// demand panics with a fault of the step unless all is right, so that what a step does can be written without its errors.
func (s *stand) demand(isRight bool, e api.Errno) {
	if !isRight {
		panic(fault{e, s.step})
	}
}

func (s *stand) isFormed(x api.Stir) bool {
	named := x.Kind == pouring || x.Kind == taking
	moved := x.Kind == moving
	return isWithin(x.Kind, pouring, spilling) &&
		isWithin(x.Day, s.day, api.MaxDay) &&
		s.isPit(x.Pit) &&
		isField(named, x.ID, api.MaxID) &&
		isField(x.Kind != turning, x.Amount, api.MaxAmount) &&
		(moved && s.isPit(x.To) && x.To != x.Pit || !moved && x.To == 0)
}

// isField reports whether a number can stand in a field: one from 1 on if the kind has it, otherwise 0.
func isField(has bool, n, most int) bool {
	return has && isWithin(n, 1, most) || !has && n == 0
}

func (s *stand) isPit(pit int) bool { return isWithin(pit, 0, len(s.rooms)-1) }

func (s *stand) pour(x api.Stir) {
	s.demand(!s.isNamed(x.ID), api.ErrTwice)
	s.demandRoom(x.Pit, x.Amount)
	s.pours = append(s.pours, x.ID)
	s.poured[x.ID] = x.Day
	s.pits[x.Pit] = append(s.pits[x.Pit], parcel{x.Amount, mix{x.ID: whole(x.Amount)}})
}

func (s *stand) take(x api.Stir) {
	s.demand(!s.isNamed(x.ID), api.ErrTwice)
	s.demandHeld(x.Pit, x.Amount)
	parts := s.mixed(s.ahead(x.Pit, x.Amount))
	s.barrows = append(s.barrows, barrow{x.ID, x.Day, x.Amount, parts})
}

func (s *stand) turn(x api.Stir) {
	if all := s.held(x.Pit); all > 0 {
		s.pits[x.Pit] = []parcel{{all, s.mixed(s.pits[x.Pit])}}
	}
}

func (s *stand) move(x api.Stir) {
	s.demandHeld(x.Pit, x.Amount)
	s.demandRoom(x.To, x.Amount)
	moved := s.ahead(x.Pit, x.Amount)
	s.pits[x.To] = append(s.pits[x.To], moved...)
}

func (s *stand) spill(x api.Stir) {
	s.demandHeld(x.Pit, x.Amount)
	parts := s.mixed(s.ahead(x.Pit, x.Amount))
	s.lost = append(s.lost, parts)
}

func (s *stand) demandHeld(pit, amount int) {
	s.demand(amount <= s.held(pit), api.ErrState)
}

func (s *stand) demandRoom(pit, amount int) {
	s.demand(s.held(pit)+amount <= s.rooms[pit], api.ErrLimit)
}

// ahead takes an amount out of a pit that has so much, and returns the parcels.
func (s *stand) ahead(pit, amount int) []parcel {
	list, n := s.pits[pit], 0
	for n < len(list) && list[n].amount <= amount {
		amount -= list[n].amount
		n++
	}
	// Three indices: what is appended to those that are taken must not stand in the place of one that stays.
	taken, left := list[:n:n], list[n:]
	if amount > 0 {
		divided := left[0]
		left[0] = s.portion(divided, divided.amount-amount)
		taken = append(taken, s.portion(divided, amount))
	}
	s.pits[pit] = left
	return taken
}

// portion returns a parcel of n out of the amount of another one.
func (s *stand) portion(c parcel, n int) parcel {
	parts := mix{}
	for pour, amount := range c.parts {
		part := times(amount, n, c.amount)
		s.demand(isFine(part), api.ErrRange)
		parts[pour] = part
	}
	return parcel{n, parts}
}

// mixed returns the parts of several parcels together.
func (s *stand) mixed(list []parcel) mix {
	parts := mix{}
	for _, pour := range s.pours {
		amount, ok := sum(slices.Values(list), isFine, func(c parcel) api.Ratio { return c.parts.of(pour) })
		s.demand(ok, api.ErrRange)
		if amount.Num > 0 {
			parts[pour] = amount
		}
	}
	return parts
}

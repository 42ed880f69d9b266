package pit

import (
	"iter"
	"maps"
	"slices"

	"calx/api"
)

// mix is amounts of pours, by their IDs; none of them is 0. No mix is changed once it is made, so that parcels can share it.
type mix map[int]api.Ratio

// of returns the amount of a pour.
func (m mix) of(pour int) api.Ratio {
	if amount, ok := m[pour]; ok {
		return amount
	}
	return whole(0)
}

// parcel is an amount that is mixed alike.
type parcel struct {
	amount int
	parts  mix
}

func (c parcel) isLike(d parcel) bool {
	return c.amount == d.amount && maps.Equal(c.parts, d.parts)
}

// barrow is what was taken on a day.
type barrow struct {
	id, day, amount int
	parts           mix
}

// stand is how pits stand behind some steps.
type stand struct {
	rooms   []int
	pits    [][]parcel
	pours   []int       // IDs, in the order of the steps
	poured  map[int]int // the days of pours, by their IDs
	barrows []barrow
	lost    []mix // what each step lost
	step    int   // the number of the last step
	day     int   // its day
}

// empty returns how pits stand ahead of all steps.
func empty(rooms []int) *stand {
	return &stand{rooms: rooms, pits: make([][]parcel, len(rooms)), poured: map[int]int{}}
}

// held returns how much there is in a pit.
func (s *stand) held(pit int) int {
	n := 0
	for _, c := range s.pits[pit] {
		n += c.amount
	}
	return n
}

// parcels yields all parcels, pit by pit.
func (s *stand) parcels() iter.Seq[parcel] {
	return func(yield func(parcel) bool) {
		for _, pit := range s.pits {
			for _, c := range pit {
				if !yield(c) {
					return
				}
			}
		}
	}
}

// barrow returns the barrow with an ID, if there is one.
func (s *stand) barrow(id int) (barrow, bool) {
	i := slices.IndexFunc(s.barrows, func(b barrow) bool { return b.id == id })
	if i < 0 {
		return barrow{}, false
	}
	return s.barrows[i], true
}

func (s *stand) isPour(id int) bool {
	_, ok := s.poured[id]
	return ok
}

func (s *stand) isNamed(id int) bool {
	_, ok := s.barrow(id)
	return ok || s.isPour(id)
}

// list returns the parts of a mix in the order of the pours, since a map has none.
func (s *stand) list(parts mix) []api.Part {
	var l []api.Part
	for _, pour := range s.pours {
		if amount, ok := parts[pour]; ok {
			l = append(l, api.Part{Pour: pour, Amount: amount})
		}
	}
	return l
}

// isLike reports whether there is the same in all barrows and in all pits.
func (s *stand) isLike(other *stand) bool {
	for _, b := range s.barrows {
		if o, ok := other.barrow(b.id); !ok || !maps.Equal(b.parts, o.parts) {
			return false
		}
	}
	return slices.EqualFunc(s.pits, other.pits, func(a, b []parcel) bool {
		return slices.EqualFunc(a, b, parcel.isLike)
	})
}

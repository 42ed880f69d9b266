package shaft

import "calx/api"

// row is the loads, or the draws, of a kiln; the mark of the first i of them is base + i.
type row[T api.Load | api.Draw] struct {
	list []T
	base int
}

func loads(k api.Kiln) row[api.Load] { return row[api.Load]{k.Loads, 0} }

func draws(k api.Kiln) row[api.Draw] { return row[api.Draw]{k.Draws, len(k.Loads)} }

// at returns a record of the row. Both sorts have the same fields, so that a load can stand for either one.
func (r row[T]) at(i int) api.Load { return api.Load(r.list[i]) }

// mark returns the mark of the first records. Both rows share the mark 0, for nothing.
func (r row[T]) mark(count int) int {
	if count == 0 {
		return 0
	}
	return r.base + count
}

// by returns the mark of all records that were made by an hour.
func (r row[T]) by(hour int) int {
	count := 0
	for count < len(r.list) && r.at(count).Hour <= hour {
		count++
	}
	return r.mark(count)
}

// part is what reaches from a mark (ahead) up to another one (own).
type part struct{ ahead, own int }

// part returns what a record of the row reaches over.
func (r row[T]) part(i int) part { return part{r.mark(i), r.mark(i + 1)} }

// parts returns the parts of all records, by their IDs.
func (r row[T]) parts() map[int]part {
	m := map[int]part{}
	for i := range r.list {
		m[r.at(i).ID] = r.part(i)
	}
	return m
}

// run returns the part of all records from one ID to another one: ErrNone unless the row has both, ErrArg if the second one stands ahead.
func (r row[T]) run(from, to int) (part, api.Errno) {
	parts := r.parts()
	first, ok := parts[from]
	last, both := parts[to]
	if !ok || !both {
		return part{}, api.ErrNone
	}
	if last.own < first.own {
		return part{}, api.ErrArg
	}
	return part{first.ahead, last.own}, api.OK
}

// held returns the part of what lies in the shaft behind an hour.
func held(k api.Kiln, hour int) part { return part{draws(k).by(hour), loads(k).by(hour)} }

// weighed returns the part that was weighed, if a weighing tells of one.
func weighed(k api.Kiln, w api.Weigh) (part, bool) {
	switch w.Kind {
	case api.WgLoads:
		p, e := loads(k).run(w.From, w.To)
		return p, e == api.OK
	case api.WgDraws:
		p, e := draws(k).run(w.From, w.To)
		return p, e == api.OK
	case api.WgHeld:
		if isHour(w.From) && w.To == 0 {
			return held(k, w.From), true
		}
	}
	return part{}, false
}

package works

import (
	"cmp"
	"iter"
	"slices"

	"calx/api"
	"calx/fire"
	"calx/pit"
	"calx/shaft"
)

// ledger is a site, and what is written there.
type ledger struct {
	site  api.Site
	writs []api.Writ
}

// Stand returns the writs that stand, as known on a day.
func Stand(s api.Site, l []api.Writ, known int) ([]api.Writ, api.Errno) {
	g := ledger{s, l}
	if e := g.check(known); e != api.OK {
		return nil, e
	}
	return slices.Collect(g.standing(known)), api.OK
}

// KilnOf returns the kiln, as known on a day.
func KilnOf(s api.Site, l []api.Writ, known int) (api.Kiln, api.Errno) {
	g := ledger{s, l}
	if e := g.check(known); e != api.OK {
		return api.Kiln{}, e
	}
	return g.kiln(known)
}

// FireOf returns the fire, as known on a day.
func FireOf(s api.Site, l []api.Writ, known int) (api.Fire, api.Errno) {
	g := ledger{s, l}
	if e := g.check(known); e != api.OK {
		return api.Fire{}, e
	}
	return g.fire(known)
}

// PitsOf returns the pits, as known on a day.
func PitsOf(s api.Site, l []api.Writ, known int) (api.Pits, api.Errno) {
	g := ledger{s, l}
	if e := g.check(known); e != api.OK {
		return api.Pits{}, e
	}
	return g.pits(known)
}

// check returns the first error of the writs, and of a day.
func (g ledger) check(known int) api.Errno {
	if e := CheckWrits(g.site, g.writs); e != api.OK {
		return e
	}
	if !isDay(known) {
		return api.ErrArg
	}
	return api.OK
}

// standing yields the writs that stand, by their IDs, so that all that is made of them does not hang on the order in which they were written.
func (g ledger) standing(known int) iter.Seq[api.Writ] {
	return func(yield func(api.Writ) bool) {
		withdrawn := g.withdrawn(known)
		byID := slices.SortedFunc(slices.Values(g.writs), func(v, w api.Writ) int { return cmp.Compare(v.ID, w.ID) })
		for _, w := range byID {
			stands := w.Known <= known && w.Kind != api.WrBack && !withdrawn[w.ID]
			if stands && !yield(w) {
				return
			}
		}
	}
}

// withdrawn returns the IDs that are withdrawn, whether a writ has them or not.
func (g ledger) withdrawn(known int) map[int]bool {
	ids := map[int]bool{}
	for _, w := range g.writs {
		if w.Kind == api.WrBack && w.Known <= known {
			ids[w.Ref] = true
		}
	}
	return ids
}

func bareKiln(s api.Site) api.Kiln { return api.Kiln{Room: s.Room, PerFoot: s.PerFoot} }

func bareFire(s api.Site) api.Fire {
	return api.Fire{Rise: s.Rise, Fall: s.Fall, Up: s.Up, Down: s.Down}
}

func barePits(s api.Site) api.Pits { return api.Pits{Rooms: slices.Clone(s.Rooms)} }

func (g ledger) kiln(known int) (api.Kiln, api.Errno) {
	k := bareKiln(g.site)
	for w := range g.standing(known) {
		switch w.Kind {
		case api.WrLoad:
			w.Load.ID = w.ID
			k.Loads = append(k.Loads, w.Load)
		case api.WrDraw:
			w.Draw.ID = w.ID
			k.Draws = append(k.Draws, w.Draw)
		case api.WrWeigh:
			w.Weigh.ID = w.ID
			k.Weighs = append(k.Weighs, w.Weigh)
		}
	}
	sortBy(k.Loads, func(x api.Load) int { return x.Hour })
	sortBy(k.Draws, func(x api.Draw) int { return x.Hour })
	return unless(shaft.Check(k), k)
}

func (g ledger) fire(known int) (api.Fire, api.Errno) {
	f := bareFire(g.site)
	for w := range g.standing(known) {
		if w.Kind == api.WrLook {
			w.Look.ID = w.ID
			f.Looks = append(f.Looks, w.Look)
		}
	}
	return unless(fire.Check(f), f)
}

func (g ledger) pits(known int) (api.Pits, api.Errno) {
	p := barePits(g.site)
	isDrawn := map[int]bool{}
	for w := range g.standing(known) {
		switch {
		case w.Kind == api.WrDraw:
			isDrawn[w.ID] = true
		case w.Stir.Kind == api.StTake:
			w.Stir.ID = w.ID
			p.Stirs = append(p.Stirs, w.Stir)
		case w.Kind == api.WrStir:
			p.Stirs = append(p.Stirs, w.Stir)
		}
	}
	sortBy(p.Stirs, func(x api.Stir) int { return x.Day })
	e, _ := pit.Check(p)
	if e == api.OK && !all(p.Stirs, func(x api.Stir) bool { return x.Kind != api.StPour || isDrawn[x.ID] }) {
		e = api.ErrNone
	}
	return unless(e, p)
}

// sortBy sorts a list by a number; what has the same one stays in its order.
func sortBy[T any](l []T, numberOf func(T) int) {
	slices.SortStableFunc(l, func(x, y T) int { return cmp.Compare(numberOf(x), numberOf(y)) })
}

// unless returns something, or nothing of it together with an error.
func unless[T any](e api.Errno, x T) (T, api.Errno) {
	if e != api.OK {
		var nothing T
		return nothing, e
	}
	return x, api.OK
}

package works

import (
	"maps"
	"slices"

	"calx/api"
	"calx/fire"
	"calx/pit"
	"calx/shaft"
)

// Baked returns for how many hours a load was hot enough, at least and at most.
func Baked(s api.Site, l []api.Writ, load int, hours api.Span, need, known int) (api.Span, api.Errno) {
	g := ledger{s, l}
	if e := g.check(known); e != api.OK {
		return api.Span{}, e
	}
	if !areHours(hours) || !isHeat(need) {
		return api.Span{}, api.ErrArg
	}
	k, e := g.kiln(known)
	if e != api.OK {
		return api.Span{}, e
	}
	f, e := g.fire(known)
	if e != api.OK {
		return api.Span{}, e
	}
	if loadOf(k, load) < 0 {
		return api.Span{}, api.ErrNone
	}
	if clashes(k) || contradicts(f) {
		return api.Span{}, api.ErrClash
	}
	return baked(k, f, load, hours, need), api.OK
}

// areHours reports whether a span is one of hours, and of no more than one may ask for.
func areHours(s api.Span) bool {
	return isWithin(s.Lo, 0, api.MaxHour) && isWithin(s.Hi, s.Lo, min(api.MaxHour, s.Lo+api.MaxBake-1))
}

// clashes reports whether no weights are true for a kiln.
func clashes(k api.Kiln) bool {
	_, e := shaft.Find(k)
	return e == api.ErrClash
}

// contradicts reports whether the looks of a fire do not agree.
func contradicts(f api.Fire) bool {
	_, _, found, _ := fire.Clash(f)
	return found
}

// baked counts the hours in which a load is surely hot enough, and those in which it possibly is.
func baked(k api.Kiln, f api.Fire, load int, hours api.Span, need int) api.Span {
	isEnough := func(heat int) bool { return heat >= need }
	var count api.Span
	for hour := hours.Lo; hour <= hours.Hi; hour++ {
		spots := lies(k, load, hour)
		if len(spots) > 0 && all(heats(f, spots, fire.Coolest), isEnough) {
			count.Lo++
		}
		if slices.ContainsFunc(heats(f, spots, fire.Hottest), isEnough) {
			count.Hi++
		}
	}
	return count
}

// lies returns where a load lies behind an hour; nowhere, if it is not charged by then.
func lies(k api.Kiln, load, hour int) []api.Spot {
	feet, e := shaft.Feet(k, load, hour)
	if e != api.OK {
		return nil
	}
	var l []api.Spot
	for foot := nearest(feet.Lo); foot <= nearest(feet.Hi); foot++ {
		l = append(l, api.Spot{Foot: foot, Hour: hour})
	}
	return l
}

// nearest returns the foot of a shaft that is nearest to a number.
func nearest(foot int) int { return max(0, min(foot, api.MaxFeet)) }

// heats returns the ends of spots that a function tells; it can be asked about a few of them at once.
func heats(f api.Fire, spots []api.Spot, tell func(api.Fire, []api.Spot) ([]int, api.Errno)) []int {
	var l []int
	for some := range slices.Chunk(spots, api.MaxSpots) {
		told, _ := tell(f, some)
		l = append(l, told...)
	}
	return l
}

// From returns the loads of which a barrow surely has something, and possibly.
func From(s api.Site, l []api.Writ, barrow, known int) ([]int, []int, api.Errno) {
	g := ledger{s, l}
	if e := g.check(known); e != api.OK {
		return nil, nil, e
	}
	k, e := g.kiln(known)
	if e != api.OK {
		return nil, nil, e
	}
	p, e := g.pits(known)
	if e != api.OK {
		return nil, nil, e
	}
	parts, e := pit.Barrow(p, barrow)
	if e != api.OK {
		return nil, nil, e
	}
	return sourcesOf(k, parts)
}

// sourcesOf returns the loads of which the draws of some parts surely took something, and possibly.
func sourcesOf(k api.Kiln, parts []api.Part) ([]int, []int, api.Errno) {
	surely, perhaps := map[int]bool{}, map[int]bool{}
	for _, x := range parts {
		sure, maybe, e := shaft.Sources(k, x.Pour)
		if e != api.OK {
			return nil, nil, e
		}
		add(surely, sure)
		add(perhaps, maybe)
	}
	return slices.Sorted(maps.Keys(surely)), slices.Sorted(maps.Keys(perhaps)), api.OK
}

func add(set map[int]bool, l []int) {
	for _, n := range l {
		set[n] = true
	}
}

// loadOf returns the index of a load, or -1.
func loadOf(k api.Kiln, id int) int {
	return slices.IndexFunc(k.Loads, func(x api.Load) bool { return x.ID == id })
}

// drawOf returns the index of a draw, or -1.
func drawOf(k api.Kiln, id int) int {
	return slices.IndexFunc(k.Draws, func(x api.Draw) bool { return x.ID == id })
}

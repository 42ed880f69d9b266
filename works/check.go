// Package works is layer 10: the whole lime works, with its book, questions, replies and a checker of replies (shared/doc/10-works.md).
package works

import (
	"calx/api"
	"calx/fire"
	"calx/pit"
	"calx/shaft"
)

// CheckSite returns the first error of a site.
func CheckSite(s api.Site) api.Errno {
	if e := shaft.Check(bareKiln(s)); e != api.OK {
		return e
	}
	if e := fire.Check(bareFire(s)); e != api.OK {
		return e
	}
	e, _ := pit.Check(barePits(s))
	return e
}

// CheckWrits returns the first error of writs.
func CheckWrits(s api.Site, l []api.Writ) api.Errno {
	if e := CheckSite(s); e != api.OK {
		return e
	}
	if len(l) > api.MaxWrits {
		return api.ErrLimit
	}
	seen := map[int]bool{}
	for _, w := range l {
		if !isWrit(s, w) {
			return api.ErrForm
		}
		if seen[w.ID] {
			return api.ErrTwice
		}
		seen[w.ID] = true
	}
	return api.OK
}

// isWrit reports whether a writ is formed at a site that is right: if a command can write it, and the site has its pits. (It comes to be known only when it is written.)
func isWrit(s api.Site, w api.Writ) bool {
	known, pits := w.Known, len(s.Rooms)
	w.Known = 0
	return isDay(known) && isFormed(api.Command{Kind: api.CoWrit, Writ: w}) && w.Stir.Pit < pits && w.Stir.To < pits
}

// isQuestion reports whether a command is a question that is formed.
func isQuestion(c api.Command) bool {
	return isWithin(c.Kind, api.CoWeight, api.CoGrown) && isFormed(c)
}

func isDay(n int) bool { return isWithin(n, 0, api.MaxDay) }

func isHeat(n int) bool { return isWithin(n, 0, api.MaxHeat) }

func isWithin(n, least, most int) bool { return least <= n && n <= most }

// all reports whether something is so of each element of a list.
func all[T any](l []T, isSo func(T) bool) bool {
	_, found := find(l, func(x T) bool { return !isSo(x) })
	return !found
}

// find returns the first element of a list of which something is so, if there is one.
func find[T any](l []T, isSo func(T) bool) (T, bool) {
	for _, x := range l {
		if isSo(x) {
			return x, true
		}
	}
	var none T
	return none, false
}

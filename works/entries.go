package works

import (
	"slices"

	"calx/api"
	"calx/book"
)

// EntryOf returns the entry of a writ in the book.
func EntryOf(s api.Site, w api.Writ) (api.Entry, api.Errno) {
	if e := CheckSite(s); e != api.OK {
		return api.Entry{}, e
	}
	if !isWrit(s, w) {
		return api.Entry{}, api.ErrForm
	}
	return entryOf(w), api.OK
}

// BookOf returns the book of writs.
func BookOf(s api.Site, l []api.Writ) ([]api.Entry, api.Errno) {
	if e := CheckWrits(s, l); e != api.OK {
		return nil, e
	}
	return ledger{s, l}.entries(), api.OK
}

// entries returns the book of the writs.
func (g ledger) entries() []api.Entry {
	writs := slices.Clone(g.writs)
	sortBy(writs, func(w api.Writ) int { return w.Known })
	var l []api.Entry
	for _, w := range writs {
		l = append(l, entryOf(w))
	}
	return l
}

func entryOf(w api.Writ) api.Entry {
	told := [8]int{w.Ref}
	copy(told[1:], toldBy(w))
	digest, _ := book.Digest(told[:])
	// A digest can be greater than any sum of an entry, but half of it cannot.
	return api.Entry{Day: w.Known, Kind: w.Kind, Who: w.ID, Sum: digest / 2}
}

// toldBy returns the numbers that writs of a kind tell.
func toldBy(w api.Writ) []int {
	switch w.Kind {
	case api.WrLoad:
		return []int{w.Load.Hour, w.Load.Weight.Lo, w.Load.Weight.Hi}
	case api.WrDraw:
		return []int{w.Draw.Hour, w.Draw.Weight.Lo, w.Draw.Weight.Hi}
	case api.WrWeigh:
		return []int{w.Weigh.Kind, w.Weigh.From, w.Weigh.To, w.Weigh.Sum.Lo, w.Weigh.Sum.Hi}
	case api.WrLook:
		return []int{w.Look.At.Foot, w.Look.At.Hour, w.Look.Heat.Lo, w.Look.Heat.Hi}
	case api.WrStir:
		return []int{w.Stir.Kind, w.Stir.ID, w.Stir.Day, w.Stir.Pit, w.Stir.To, w.Stir.Amount}
	}
	return nil
}

package recall

import (
	"slices"

	"calx/api"
)

// Told returns a lineage in which an option of a record is known to be true.
func Told(l api.Lineage, link, option int) (api.Lineage, api.Errno) {
	i, e := findOption(l, link, option)
	if e != api.OK {
		return api.Lineage{}, e
	}
	return told(l, i, option), api.OK
}

// Denied returns a lineage in which an option of a record is known to be false.
func Denied(l api.Lineage, link, option int) (api.Lineage, api.Errno) {
	i, e := findOption(l, link, option)
	if e != api.OK {
		return api.Lineage{}, e
	}
	if len(l.Claims[i].Options) == 1 {
		return api.Lineage{}, api.ErrClash
	}
	denied := clone(l)
	denied.Claims[i].Options = slices.Delete(denied.Claims[i].Options, option, option+1)
	return denied, api.OK
}

// findOption returns the index of a record, or the first error of a lineage, a record and an index of its options.
func findOption(l api.Lineage, link, option int) (int, api.Errno) {
	if e := Check(l); e != api.OK {
		return 0, e
	}
	i := indexOf(l.Claims, link, claimID)
	if i < 0 {
		return 0, api.ErrNone
	}
	if !isWithin(option, 0, len(l.Claims[i].Options)-1) {
		return 0, api.ErrArg
	}
	return i, api.OK
}

// told returns the lineage in which the record at an index has one of its options alone.
func told(l api.Lineage, i, option int) api.Lineage {
	other := clone(l)
	other.Claims[i].Options = []api.Hop{l.Claims[i].Options[option]}
	return other
}

// Without returns a lineage without some records.
func Without(l api.Lineage, links []int) (api.Lineage, api.Errno) {
	if e := Check(l); e != api.OK {
		return api.Lineage{}, e
	}
	if !areLinks(l, links) {
		return api.Lineage{}, api.ErrArg
	}
	gone := setOf(links)
	other := clone(l)
	other.Claims = slices.DeleteFunc(other.Claims, func(x api.Claim) bool { return gone[x.ID] })
	return other, api.OK
}

// Join returns the nodes and records of two lineages.
func Join(a, b api.Lineage) (api.Lineage, api.Errno) {
	for _, l := range []api.Lineage{a, b} {
		if e := Check(l); e != api.OK {
			return api.Lineage{}, e
		}
	}
	nodes, areNodesAlike := join(a.Nodes, b.Nodes, nodeID, func(x, y api.Node) bool { return x == y })
	claims, areClaimsAlike := join(a.Claims, b.Claims, claimID, func(x, y api.Claim) bool { return slices.Equal(x.Options, y.Options) })
	if !areNodesAlike || !areClaimsAlike {
		return api.Lineage{}, api.ErrClash
	}
	both := clone(api.Lineage{Nodes: nodes, Claims: claims})
	if e := Check(both); e != api.OK {
		return api.Lineage{}, e
	}
	return both, api.OK
}

// join returns the things of two lists in new memory, and true; or false if two of them have the same ID, but are not equal.
func join[T any](a, b []T, idOf func(T) int, areEqual func(x, y T) bool) ([]T, bool) {
	all := slices.Clone(a)
	for _, y := range b {
		i := indexOf(a, idOf(y), idOf)
		if i < 0 {
			all = append(all, y)
		} else if !areEqual(a[i], y) {
			return nil, false
		}
	}
	return all, true
}

// clone returns the same lineage, with memory of its own.
func clone(l api.Lineage) api.Lineage {
	other := api.Lineage{Nodes: slices.Clone(l.Nodes), Claims: slices.Clone(l.Claims)}
	for i, x := range l.Claims {
		other.Claims[i].Options = slices.Clone(x.Options)
	}
	return other
}

package sample

import (
	"slices"

	"calx/api"
)

// Together returns, for batches with a sum of a sort, between which ends the number of each one lies.
func Together(l []api.Batch, sort int, sum api.Span) ([]api.Span, api.Errno) {
	if len(l) > api.MaxBatches {
		return nil, api.ErrLimit
	}
	for _, b := range l {
		if e := Check(b); e != api.OK {
			return nil, e
		}
	}
	if !isSort(sort) || !isSpan(sum) {
		return nil, api.ErrArg
	}
	var each []api.Span
	for _, b := range l {
		each = append(each, ends(b, sort))
	}
	return share(each, sum)
}

// share returns between which ends each of some numbers lies if together they are in a span. (A batch can have each number between its ends, so only their sums matter.)
func share(each []api.Span, sum api.Span) ([]api.Span, api.Errno) {
	all := api.Span{
		Lo: total(slices.Values(each), func(s api.Span) int { return s.Lo }),
		Hi: total(slices.Values(each), func(s api.Span) int { return s.Hi }),
	}
	// Any span may be asked for: what cannot be anyway is cut off, so that no difference is out of range.
	sum = api.Span{Lo: max(sum.Lo, all.Lo), Hi: min(sum.Hi, all.Hi)}
	if !isSpan(sum) {
		return nil, api.ErrClash
	}
	var l []api.Span
	for _, s := range each {
		others := api.Span{Lo: all.Lo - s.Lo, Hi: all.Hi - s.Hi}
		l = append(l, api.Span{Lo: max(s.Lo, sum.Lo-others.Hi), Hi: min(s.Hi, sum.Hi-others.Lo)})
	}
	return l, api.OK
}

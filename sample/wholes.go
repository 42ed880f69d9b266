package sample

import (
	"iter"
	"slices"

	"calx/api"
)

// Wholes returns all that a batch can be.
func Wholes(b api.Batch) ([]api.Kinds, api.Errno) {
	if e := Check(b); e != api.OK {
		return nil, e
	}
	return slices.Collect(wholes(b)), api.OK
}

// Ends returns between which ends the number of a sort lies.
func Ends(b api.Batch, sort int) (api.Span, api.Errno) {
	if e := checkSort(b, sort); e != api.OK {
		return api.Span{}, e
	}
	return ends(b, sort), api.OK
}

// wholes yields all possible wholes of a batch, in increasing order.
func wholes(b api.Batch) iter.Seq[api.Kinds] {
	return func(yield func(api.Kinds) bool) {
		cores := allowed(b, api.SoCore)
		for over := range numbers(allowed(b, api.SoOver)) {
			for burnt := range numbers(allowed(b, api.SoBurnt)) {
				core := b.Barrows - over - burnt
				if isWithin(core, cores.Lo, cores.Hi) && !yield(api.Kinds{over, burnt, core}) {
					return
				}
			}
		}
	}
}

// allowed returns the numbers of a sort that agree with what was seen and is known of it, whatever there is of the others.
func allowed(b api.Batch, sort int) api.Span {
	return api.Span{Lo: max(b.Seen[sort], b.Known[sort].Lo), Hi: b.Known[sort].Hi}
}

// ends returns the least and the greatest number of a sort.
func ends(b api.Batch, sort int) api.Span {
	s := api.Span{Lo: b.Barrows}
	for whole := range wholes(b) {
		s = api.Span{Lo: min(s.Lo, whole[sort]), Hi: max(s.Hi, whole[sort])}
	}
	return s
}

package sample

import "calx/api"

// More returns a batch of which more was seen.
func More(b api.Batch, seen api.Kinds) (api.Batch, api.Errno) {
	if e := Check(b); e != api.OK {
		return api.Batch{}, e
	}
	if !isSample(seen) {
		return api.Batch{}, api.ErrArg
	}
	if !isUpTo(seen, b.Barrows-count(b.Seen)) {
		return api.Batch{}, api.ErrRange
	}
	s := sight{b}
	s.add(seen)
	if e := Check(s.batch); e != api.OK {
		return api.Batch{}, e
	}
	return s.batch, api.OK
}

// sight is a batch of which more and more is seen.
type sight struct{ batch api.Batch }

// add adds a sample to what was seen.
func (s *sight) add(seen api.Kinds) {
	for sort, n := range seen {
		s.batch.Seen[sort] += n
	}
}

// Bin is a batch from which samples are taken one after the other.
type Bin struct {
	start api.Batch
	drawn []api.Kinds
}

// New returns a bin.
func New(b api.Batch) (*Bin, api.Errno) {
	if e := Check(b); e != api.OK {
		return nil, e
	}
	return &Bin{start: b}, api.OK
}

// Draw takes a sample.
func (x *Bin) Draw(seen api.Kinds) api.Errno {
	if len(x.drawn) >= api.MaxDrawn {
		return api.ErrLimit
	}
	if _, e := More(x.Batch(), seen); e != api.OK {
		return e
	}
	x.drawn = append(x.drawn, seen)
	return api.OK
}

// Back takes back the last sample.
func (x *Bin) Back() api.Errno {
	last := len(x.drawn) - 1
	if last < 0 {
		return api.ErrState
	}
	x.drawn = x.drawn[:last]
	return api.OK
}

// Batch returns the batch, with all that was seen.
func (x *Bin) Batch() api.Batch {
	s := sight{x.start}
	x.each(s.add)
	return s.batch
}

// each calls a function with each sample that was taken.
func (x *Bin) each(do func(seen api.Kinds)) {
	for _, seen := range x.drawn {
		do(seen)
	}
}

package pit

import "calx/api"

// Culprits returns the pours each of which alone can have made the barrows as bad as they were found.
func Culprits(p api.Pits, l []api.Probe) ([]api.Blame, api.Errno) {
	s, e := probed(p, l)
	if e != api.OK {
		return nil, e
	}
	var culprits []api.Blame
	for _, pour := range s.pours {
		if b, n := s.blame(l, pour); n == len(l) {
			culprits = append(culprits, b)
		}
	}
	return culprits, api.OK
}

// CheckBlame returns OK if a pour that is so bad explains what was found.
func CheckBlame(p api.Pits, l []api.Probe, pour int, mille api.Ratio) api.Errno {
	s, e := suspected(p, l, pour)
	if e != api.OK {
		return e
	}
	if !isValid(mille) || compare(mille, whole(api.MaxMille)) > 0 {
		return api.ErrArg
	}
	if b, n := s.blame(l, pour); n < len(l) || compare(mille, b.Lo) < 0 || compare(mille, b.Hi) > 0 {
		return api.ErrProof
	}
	return api.OK
}

// Clears returns the first probe that shows that a pour alone is not to blame.
func Clears(p api.Pits, l []api.Probe, pour int) (int, bool, api.Errno) {
	s, e := suspected(p, l, pour)
	if e != api.OK {
		return 0, false, e
	}
	_, n := s.blame(l, pour)
	if n == len(l) {
		return 0, false, api.OK
	}
	return n, true, api.OK
}

// probed returns how pits stand behind all steps, if probes are right.
func probed(p api.Pits, l []api.Probe) (*stand, api.Errno) {
	s, e, _ := behindAll(p)
	if e != api.OK {
		return nil, e
	}
	if len(l) > api.MaxProbes {
		return nil, api.ErrLimit
	}
	tried := map[int]bool{}
	for _, x := range l {
		_, ok := s.barrow(x.Barrow)
		switch {
		case !ok:
			return nil, api.ErrNone
		case !isMille(x.Mille):
			return nil, api.ErrArg
		case tried[x.Barrow]:
			return nil, api.ErrTwice
		}
		tried[x.Barrow] = true
	}
	return s, api.OK
}

// suspected returns how pits stand behind all steps, if probes are right, and there is a pour.
func suspected(p api.Pits, l []api.Probe, pour int) (*stand, api.Errno) {
	s, e := probed(p, l)
	if e == api.OK && !s.isPour(pour) {
		return nil, api.ErrNone
	}
	return s, e
}

// blame returns the least and the greatest grade of a pour that alone explains probes, and their number; or nothing, and the index of the first probe up to which no grade does.
func (s *stand) blame(l []api.Probe, pour int) (api.Blame, int) {
	all := api.Blame{Pour: pour, Lo: whole(0), Hi: whole(api.MaxMille)}
	for i, x := range l {
		b, _ := s.barrow(x.Barrow)
		lo, hi := explains(b.parts.of(pour), b.amount, x.Mille)
		if compare(lo, all.Lo) > 0 {
			all.Lo = lo
		}
		if compare(hi, all.Hi) < 0 {
			all.Hi = hi
		}
		if compare(all.Lo, all.Hi) > 0 {
			return api.Blame{}, i
		}
	}
	return all, len(l)
}

// explains returns between which ends the grade of a pour lies, if it alone makes a barrow as bad as it is. The first end is greater than the second one if it cannot.
func explains(part api.Ratio, amount int, mille api.Span) (api.Ratio, api.Ratio) {
	if part.Num > 0 {
		return times(whole(mille.Lo), amount*part.Den, part.Num), times(whole(mille.Hi), amount*part.Den, part.Num)
	}
	if mille.Lo > 0 {
		return whole(1), whole(0)
	}
	return whole(0), whole(api.MaxMille)
}

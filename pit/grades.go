package pit

import "calx/api"

// Worth returns how many parts of a thousand of a barrow are bad at least and at most.
func Worth(p api.Pits, barrow int, l []api.Grade) (api.Ratio, api.Ratio, api.Errno) {
	s, b, e := behindBarrow(p, barrow)
	if e != api.OK {
		return api.Ratio{}, api.Ratio{}, e
	}
	grades, e := s.grades(l)
	if e != api.OK {
		return api.Ratio{}, api.Ratio{}, e
	}
	least, e := s.shared(b, func(pour int) int { return grades[pour].Lo })
	if e != api.OK {
		return api.Ratio{}, api.Ratio{}, e
	}
	most, e := s.shared(b, func(pour int) int { return grades[pour].Hi })
	if e != api.OK {
		return api.Ratio{}, api.Ratio{}, e
	}
	return least, most, api.OK
}

// grades returns between which ends the grade of each pour lies.
func (s *stand) grades(l []api.Grade) (map[int]api.Span, api.Errno) {
	if len(l) > api.MaxStirs {
		return nil, api.ErrLimit
	}
	told := map[int]api.Span{}
	for _, g := range l {
		_, twice := told[g.Pour]
		switch {
		case !s.isPour(g.Pour):
			return nil, api.ErrNone
		case !isMille(g.Mille):
			return nil, api.ErrArg
		case twice:
			return nil, api.ErrTwice
		}
		told[g.Pour] = g.Mille
	}
	for _, pour := range s.pours {
		if _, ok := told[pour]; !ok {
			told[pour] = api.Span{Hi: api.MaxMille}
		}
	}
	return told, api.OK
}

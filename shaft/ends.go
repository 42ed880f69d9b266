package shaft

import "calx/api"

// Weight returns the least and the greatest weight of a load or a draw.
func Weight(k api.Kiln, id int) (api.Span, api.Errno) { return Run(k, id, id) }

// Run returns the least and the greatest weight of all loads (or draws) from one to another one.
func Run(k api.Kiln, from, to int) (api.Span, api.Errno) {
	if e := Check(k); e != api.OK {
		return api.Span{}, e
	}
	p, e := loads(k).run(from, to)
	if e == api.ErrNone {
		p, e = draws(k).run(from, to)
	}
	if e != api.OK {
		return api.Span{}, e
	}
	return netOf(k).ends(p)
}

// Held returns what lies in the shaft behind an hour at least and at most.
func Held(k api.Kiln, hour int) (api.Span, api.Errno) {
	if e := checkHour(k, hour); e != api.OK {
		return api.Span{}, e
	}
	return netOf(k).ends(held(k, hour))
}

// Below returns how much lies below a load behind an hour at least and at most.
func Below(k api.Kiln, load, hour int) (api.Span, api.Errno) {
	if e := checkHour(k, hour); e != api.OK {
		return api.Span{}, e
	}
	p, ok := loads(k).parts()[load]
	if !ok {
		return api.Span{}, api.ErrNone
	}
	if p.own > loads(k).by(hour) {
		return api.Span{}, api.ErrArg
	}
	return netOf(k).ends(part{draws(k).by(hour), p.ahead})
}

// Feet returns at which feet the lower end of a load can lie behind an hour.
func Feet(k api.Kiln, load, hour int) (api.Span, api.Errno) {
	s, e := Below(k, load, hour)
	if e != api.OK {
		return api.Span{}, e
	}
	return api.Span{Lo: floor(s.Lo, k.PerFoot), Hi: floor(s.Hi, k.PerFoot)}, api.OK
}

// floor returns a quotient rounded down; Go's own division rounds towards 0.
func floor(a, b int) int {
	if a < 0 {
		return -((b - 1 - a) / b)
	}
	return a / b
}

// checkHour returns the error of a kiln, or ErrArg unless a number is an hour.
func checkHour(k api.Kiln, hour int) api.Errno {
	if e := Check(k); e != api.OK {
		return e
	}
	if !isHour(hour) {
		return api.ErrArg
	}
	return api.OK
}

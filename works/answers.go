package works

import (
	"slices"

	"calx/api"
	"calx/book"
	"calx/fire"
	"calx/pit"
	"calx/shaft"
)

// Answer returns the reply to a question.
func Answer(s api.Site, l []api.Writ, q api.Command) api.Reply { return desk{ledger{s, l}, q}.answer() }

// desk is where a question about a ledger is answered.
type desk struct {
	ledger
	asked api.Command
}

func (d desk) answer() api.Reply {
	if !isQuestion(d.asked) {
		return api.Reply{Err: api.ErrForm}
	}
	if e := CheckWrits(d.site, d.writs); e != api.OK {
		return api.Reply{Err: e}
	}
	answers := map[int]func() (api.Reply, api.Errno){
		api.CoWeight: d.weight,
		api.CoWhere:  d.where,
		api.CoHeat:   d.heat,
		api.CoBaked:  d.baked,
		api.CoTook:   d.took,
		api.CoBarrow: d.barrow,
		api.CoFrom:   d.from,
		api.CoStands: d.stands,
		api.CoGrown:  d.grown,
	}
	r, e := answers[d.asked.Kind]()
	if e != api.OK {
		return api.Reply{Err: e}
	}
	return r
}

func (d desk) weight() (api.Reply, api.Errno) {
	x, e := d.weighed()
	if e != api.OK {
		return api.Reply{}, e
	}
	return x.reply(1)
}

func (d desk) where() (api.Reply, api.Errno) {
	x, e := d.below()
	if e != api.OK {
		return api.Reply{}, e
	}
	return x.reply(d.site.PerFoot)
}

func (d desk) heat() (api.Reply, api.Errno) {
	f, e := d.fire(d.asked.Known)
	if e != api.OK {
		return api.Reply{}, e
	}
	b, e := fire.Ends(f, d.spot())
	return api.Reply{Bounds: b}, e
}

// spot returns what spot a question about heat is about.
func (d desk) spot() api.Spot { return api.Spot{Foot: d.asked.A, Hour: d.asked.B} }

func (d desk) baked() (api.Reply, api.Errno) {
	s, e := Baked(d.site, d.writs, d.asked.A, api.Span{Lo: d.asked.B, Hi: d.asked.C}, d.asked.D, d.asked.Known)
	return api.Reply{Span: s}, e
}

func (d desk) took() (api.Reply, api.Errno) {
	k, e := d.kiln(d.asked.Known)
	if e != api.OK {
		return api.Reply{}, e
	}
	s, e := shaft.Took(k, d.asked.A, d.asked.B)
	return api.Reply{Span: s}, e
}

func (d desk) barrow() (api.Reply, api.Errno) {
	p, e := d.pits(d.asked.Known)
	if e != api.OK {
		return api.Reply{}, e
	}
	l, e := pit.Barrow(p, d.asked.A)
	return api.Reply{Parts: l}, e
}

func (d desk) from() (api.Reply, api.Errno) {
	sure, maybe, e := From(d.site, d.writs, d.asked.A, d.asked.Known)
	return api.Reply{Sure: sure, Maybe: maybe}, e
}

func (d desk) stands() (api.Reply, api.Errno) { return d.proved(book.Stands, len(d.writs)-1) }

func (d desk) grown() (api.Reply, api.Errno) { return d.proved(book.Grown, len(d.writs)) }

// proved returns the reply to a question about the book, with a proof of a number, which is at most the last one for which there is a proof.
func (d desk) proved(proof func(l []api.Entry, n int) ([]api.Twig, api.Errno), last int) (api.Reply, api.Errno) {
	if d.asked.A > last {
		return api.Reply{}, api.ErrNone
	}
	l := d.entries()
	root, _ := book.Root(l)
	twigs, e := proof(l, d.asked.A)
	return api.Reply{Root: root, Many: len(l), Twigs: twigs}, e
}

// stretch is what reaches from a mark of a kiln up to another one.
type stretch struct {
	kiln     api.Kiln
	from, to int
}

// weighed returns what the load or the draw reaches over that a question is about.
func (d desk) weighed() (stretch, api.Errno) {
	k, e := d.kiln(d.asked.Known)
	if e != api.OK {
		return stretch{}, e
	}
	if i := loadOf(k, d.asked.A); i >= 0 {
		return stretch{k, i, i + 1}, api.OK
	}
	if i := drawOf(k, d.asked.A); i >= 0 {
		return stretch{k, markOf(k, i), markOf(k, i+1)}, api.OK
	}
	return stretch{}, api.ErrNone
}

// below returns what lies below the load that a question is about.
func (d desk) below() (stretch, api.Errno) {
	k, e := d.kiln(d.asked.Known)
	if e != api.OK {
		return stretch{}, e
	}
	i := loadOf(k, d.asked.A)
	if i < 0 {
		return stretch{}, api.ErrNone
	}
	if k.Loads[i].Hour > d.asked.B {
		return stretch{}, api.ErrArg
	}
	return stretch{k, markOf(k, drawnBy(k, d.asked.B)), i}, api.OK
}

// drawnBy returns how many draws are drawn by an hour.
func drawnBy(k api.Kiln, hour int) int {
	if later := slices.IndexFunc(k.Draws, func(x api.Draw) bool { return x.Hour > hour }); later >= 0 {
		return later
	}
	return len(k.Draws)
}

// markOf returns the mark of the first draws. Those of loads come first, and that of no draws is that of no loads.
func markOf(k api.Kiln, draws int) int {
	if draws == 0 {
		return 0
	}
	return len(k.Loads) + draws
}

// reply returns how many whole units a stretch has at least and at most, with the chains that show it.
func (x stretch) reply(unit int) (api.Reply, api.Errno) {
	high, _ := shaft.Above(x.kiln, x.from, x.to)
	// What is wrong on the way up is wrong on the way down, too.
	low, e := shaft.Above(x.kiln, x.to, x.from)
	return api.Reply{Span: api.Span{Lo: floor(-low.Most, unit), Hi: floor(high.Most, unit)}, High: high, Low: low}, e
}

// floor returns a quotient rounded down; Go's own division rounds towards 0.
func floor(a, b int) int {
	if a < 0 {
		return -((b - 1 - a) / b)
	}
	return a / b
}

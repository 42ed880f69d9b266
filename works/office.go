package works

import (
	"slices"

	"calx/api"
)

// Office is a works that is run by commands.
type Office struct {
	ledger
	day int
}

// New returns an office of a site.
func New(s api.Site) (*Office, api.Errno) {
	if e := CheckSite(s); e != api.OK {
		return nil, e
	}
	return officeOf(s), api.OK
}

// officeOf returns an office of a site that is right.
func officeOf(s api.Site) *Office {
	s.Rooms = slices.Clone(s.Rooms)
	return &Office{ledger: ledger{site: s}}
}

// Do does a command, and returns its reply.
func (o *Office) Do(c api.Command) api.Reply {
	if !isFormed(c) {
		return api.Reply{Err: api.ErrForm}
	}
	switch c.Kind {
	case api.CoDay:
		return api.Reply{Err: o.begin(c.A)}
	case api.CoWrit:
		c.Writ.Known = o.day
		return api.Reply{Err: o.write(c.Writ)}
	}
	return Answer(o.site, o.writs, c)
}

// begin begins a day.
func (o *Office) begin(day int) api.Errno {
	if day < o.day {
		return api.ErrArg
	}
	o.day = day
	return api.OK
}

// write adds a writ, if it is right behind the others.
func (g *ledger) write(w api.Writ) api.Errno {
	writs := append(g.writs, w)
	if e := CheckWrits(g.site, writs); e != api.OK {
		return e
	}
	g.writs = writs
	return api.OK
}

// Day returns the day of an office.
func (o *Office) Day() int { return o.day }

// Writs returns the writs of an office.
func (o *Office) Writs() []api.Writ { return slices.Clone(o.writs) }

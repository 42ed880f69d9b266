package works

import (
	"slices"

	"calx/api"
	"calx/fire"
	"calx/shaft"
)

// CheckReply returns OK if a reply to a question is right.
func CheckReply(s api.Site, l []api.Writ, q api.Command, r api.Reply) api.Errno {
	if e := CheckWrits(s, l); e != api.OK {
		return e
	}
	if !isQuestion(q) {
		return api.ErrForm
	}
	d := desk{ledger{s, l}, q}
	right := d.answer()
	if !isSame(d.settled(r, right), right) {
		return api.ErrProof
	}
	return api.OK
}

// settled returns a reply in which proofs that are accepted stand as the right reply tells them, since others may be right, too.
func (d desk) settled(r, right api.Reply) api.Reply {
	switch d.asked.Kind {
	case api.CoWeight:
		if x, e := d.weighed(); e == api.OK {
			return x.settled(r, right)
		}
	case api.CoWhere:
		if x, e := d.below(); e == api.OK {
			return x.settled(r, right)
		}
	case api.CoHeat:
		f, e := d.fire(d.asked.Known)
		if e == api.OK && r.Bounds.Span == right.Bounds.Span && fire.CheckEnds(f, d.spot(), r.Bounds) == api.OK {
			r.Bounds = right.Bounds
		}
	}
	return r
}

// settled returns a reply with the right chains in the place of others that are accepted.
func (x stretch) settled(r, right api.Reply) api.Reply {
	if r.High.Most == right.High.Most && shaft.CheckAbove(x.kiln, x.from, x.to, r.High) == api.OK {
		r.High = right.High
	}
	if r.Low.Most == right.Low.Most && shaft.CheckAbove(x.kiln, x.to, x.from, r.Low) == api.OK {
		r.Low = right.Low
	}
	return r
}

// figures is what of a reply can be compared as a struct; its lists cannot.
type figures struct {
	err                   api.Errno
	span                  api.Span
	bounds                api.Bounds
	high, low, root, many int
}

func figuresOf(r api.Reply) figures {
	return figures{r.Err, r.Span, r.Bounds, r.High.Most, r.Low.Most, r.Root, r.Many}
}

// isSame reports whether two replies tell the same.
func isSame(a, b api.Reply) bool {
	return figuresOf(a) == figuresOf(b) && isSameChain(a.High, b.High) && isSameChain(a.Low, b.Low) &&
		slices.Equal(a.Sure, b.Sure) && slices.Equal(a.Maybe, b.Maybe) && slices.Equal(a.Parts, b.Parts) && slices.Equal(a.Twigs, b.Twigs)
}

// isSameChain reports whether the lists of two chains are the same.
func isSameChain(a, b api.Chain) bool {
	return slices.Equal(a.Path, b.Path) && slices.Equal(a.Truth.Loads, b.Truth.Loads) && slices.Equal(a.Truth.Draws, b.Truth.Draws)
}

// Accept returns OK if all replies of a script are right.
func Accept(s api.Script, l []api.Reply) (api.Errno, int) {
	if e, at := checkReplies(s, l); e != api.OK {
		return e, at
	}
	o := officeOf(s.Site)
	for i, c := range s.Commands {
		if !o.accepts(c, l[i]) {
			return api.ErrProof, i
		}
	}
	return api.OK, -1
}

// accepts does a command, and reports whether a reply to it is right.
func (o *Office) accepts(c api.Command, r api.Reply) bool {
	if isQuestion(c) {
		return CheckReply(o.site, o.writs, c, r) == api.OK
	}
	right := o.Do(c)
	return isSame(r, right)
}

package works_test

import (
	"testing"

	"calx/api"
	"calx/works"
)

// greatSite is a site in which a load can lie at any foot.
func greatSite() api.Site {
	return api.Site{Room: api.MaxRoom, PerFoot: 1, Rise: 1, Fall: 1, Up: 1, Down: 1, Rooms: list(api.MaxHold)}
}

// greatWrits are 20 loads, 20 draws and 10 weighings; or 20 loads, 6 draws and 24 looks.
func greatWrits(looks bool) []api.Writ {
	var l []api.Writ
	for i := range 20 {
		l = append(l, load(i+1, i, 0, api.MaxWeight))
	}
	draws := 20
	if looks {
		draws = 6
	}
	for i := range draws {
		l = append(l, draw(101+i, i, 0, api.MaxWeight))
	}
	for i := 0; len(l) < api.MaxWrits; i++ {
		if looks {
			l = append(l, look(201+i, 2*i, 5*i, 700-i, 800))
		} else {
			l = append(l, weigh(301+i, api.WgLoads, i+1, i+10, 100*i, api.MaxMark))
		}
	}
	return l
}

// TestGreat: the greatest books and scripts, in which each question looks at all feet of all hours.
func TestGreat(t *testing.T) {
	for _, looks := range []bool{false, true} {
		l := greatWrits(looks)
		for _, q := range commands(weight(20, 0), weight(106, 0), where(20, 50, 0), heat(30, 50, 0), baked(20, 0, 99, 690, 0), baked(1, 16000, 16099, 1, 0), took(105, 12, 0), stands(49), grown(37)) {
			r := works.Answer(greatSite(), l, q)
			if !equalReplies(r, answerBy(greatSite(), l, q)) || r.Err != api.OK {
				t.Error("P10.9:", q, r)
			}
		}
	}
	s := api.Script{Site: greatSite()}
	for _, w := range greatWrits(true) {
		s.Commands = append(s.Commands, write(w))
	}
	for len(s.Commands) < api.MaxScript {
		s.Commands = append(s.Commands, baked(19, 19, 118, 600, api.MaxDay))
	}
	l := run(t, s)
	if e, at := works.Accept(s, l); e != api.OK || at != -1 || l[79].Err != api.OK {
		t.Error("P10.14:", e, at, l[79])
	}
}

// TestFine: a barrow of parts of 20 draws.
func TestFine(t *testing.T) {
	s := greatSite()
	l := writs(load(1, 0, 20, 20), load(2, 0, 20, 20))
	for i := range 20 {
		l = append(l, draw(101+i, 1, 1, 1), pour(201+i, 1, 0, 101+i, 1))
	}
	l = append(l, turn(301, 2, 0), take(302, 3, 0, 7))
	r := works.Answer(s, l, barrow(302, 0))
	if r.Err != api.OK || len(r.Parts) != 20 {
		t.Error("P10.9:", r)
	}
	for i, x := range r.Parts {
		if x != (api.Part{Pour: 101 + i, Amount: api.Ratio{Num: 7, Den: 20}}) {
			t.Error("P10.9:", x)
		}
	}
	if r := works.Answer(s, l, from(302, 0)); !equalReplies(r, api.Reply{Sure: list(1), Maybe: list(1)}) {
		t.Error("P10.9:", r)
	}
}

package works_test

import (
	"math/big"
	"slices"
	"strconv"
	"strings"

	"calx/api"
	"calx/book"
	"calx/fire"
	"calx/pit"
	"calx/shaft"
	"calx/works"
)

// What is in this file follows the chapter's own words, kind by kind, as far as packages of lower layers do not say it.

func isIn(n, lo, hi int) bool { return lo <= n && n <= hi }

func isNumber(n int) bool { return isIn(n, 1, api.MaxMark) }

func isHour(n int) bool { return isIn(n, 0, api.MaxHour) }

func isDay(n int) bool { return isIn(n, 0, api.MaxDay) }

func isSpan(s api.Span, most int) bool { return 0 <= s.Lo && s.Lo <= s.Hi && s.Hi <= most }

// formedWrit: with shaft.Check and fire.Check, as the chapter says it of writs.
func formedWrit(s api.Site, w api.Writ) bool {
	if !isNumber(w.ID) || !isDay(w.Known) {
		return false
	}
	rest := w
	rest.ID, rest.Known, rest.Kind = 0, 0, 0
	isRight := false
	kiln := api.Kiln{Room: s.Room, PerFoot: s.PerFoot}
	switch w.Kind {
	case api.WrLoad:
		rest.Load = api.Load{}
		x := w.Load
		x.ID = w.ID
		kiln.Loads = []api.Load{x}
		isRight = w.Load.ID == 0 && shaft.Check(kiln) == api.OK
	case api.WrDraw:
		rest.Draw = api.Draw{}
		x := w.Draw
		x.ID = w.ID
		kiln.Draws = []api.Draw{x}
		isRight = w.Draw.ID == 0 && shaft.Check(kiln) == api.OK
	case api.WrWeigh:
		rest.Weigh = api.Weigh{}
		isRight = formedWeigh(w.Weigh)
	case api.WrLook:
		rest.Look = api.Look{}
		x := w.Look
		x.ID = w.ID
		isRight = w.Look.ID == 0 && fire.Check(api.Fire{Rise: s.Rise, Fall: s.Fall, Up: s.Up, Down: s.Down, Looks: []api.Look{x}}) == api.OK
	case api.WrStir:
		rest.Stir = api.Stir{}
		isRight = formedStir(w.Stir, len(s.Rooms))
	case api.WrBack:
		rest.Ref = 0
		isRight = isNumber(w.Ref)
	}
	return isRight && rest == api.Writ{}
}

func formedWeigh(x api.Weigh) bool {
	if x.ID != 0 || !isSpan(x.Sum, api.MaxMark) {
		return false
	}
	switch x.Kind {
	case api.WgLoads, api.WgDraws:
		return isNumber(x.From) && isNumber(x.To)
	case api.WgHeld:
		return isHour(x.From) && x.To == 0
	}
	return false
}

func formedStir(x api.Stir, pits int) bool {
	if !isDay(x.Day) || !isIn(x.Pit, 0, pits-1) {
		return false
	}
	hasAmount := isIn(x.Amount, 1, api.MaxAmount)
	switch x.Kind {
	case api.StPour:
		return isNumber(x.ID) && x.To == 0 && hasAmount
	case api.StTake, api.StSpill:
		return x.ID == 0 && x.To == 0 && hasAmount
	case api.StTurn:
		return x.ID == 0 && x.To == 0 && x.Amount == 0
	case api.StMove:
		return x.ID == 0 && isIn(x.To, 0, pits-1) && x.To != x.Pit && hasAmount
	}
	return false
}

// formedCommand: as the table of commands says it.
func formedCommand(c api.Command) bool {
	rest := c
	rest.Kind, rest.A = 0, 0
	isRight := false
	switch c.Kind {
	case api.CoDay:
		isRight = isDay(c.A)
	case api.CoWrit:
		rest.Writ = api.Writ{}
		isRight = c.A == 0 && c.Writ.Known == 0 && formedText(c.Writ)
	case api.CoWeight, api.CoBarrow, api.CoFrom:
		rest.Known = 0
		isRight = isNumber(c.A) && isDay(c.Known)
	case api.CoWhere:
		rest.B, rest.Known = 0, 0
		isRight = isNumber(c.A) && isHour(c.B) && isDay(c.Known)
	case api.CoHeat:
		rest.B, rest.Known = 0, 0
		isRight = isIn(c.A, 0, api.MaxFeet) && isHour(c.B) && isDay(c.Known)
	case api.CoBaked:
		rest.B, rest.C, rest.D, rest.Known = 0, 0, 0, 0
		isRight = isNumber(c.A) && isHour(c.B) && isHour(c.C) && c.B <= c.C && c.C-c.B < api.MaxBake && isIn(c.D, 0, api.MaxHeat) && isDay(c.Known)
	case api.CoTook:
		rest.B, rest.Known = 0, 0
		isRight = isNumber(c.A) && isNumber(c.B) && isDay(c.Known)
	case api.CoStands:
		isRight = isIn(c.A, 0, 49)
	case api.CoGrown:
		isRight = isIn(c.A, 0, 50)
	}
	return isRight && rest == api.Command{}
}

// formedText: as the chapter says it of the writ of a command, which does not look at a site.
func formedText(w api.Writ) bool {
	wide := api.Site{PerFoot: 1, Rooms: make([]int, api.MaxPits)}
	return formedWrit(wide, w)
}

// lineBy returns the line of a command that is formed.
func lineBy(c api.Command) string {
	w, x := c.Writ, c.Writ.Stir
	var words []any
	switch c.Kind {
	case api.CoDay:
		words = []any{"day", c.A}
	case api.CoWeight:
		words = []any{"weight", c.A, c.Known}
	case api.CoWhere:
		words = []any{"where", c.A, c.B, c.Known}
	case api.CoHeat:
		words = []any{"heat", c.A, c.B, c.Known}
	case api.CoBaked:
		words = []any{"baked", c.A, c.B, c.C, c.D, c.Known}
	case api.CoTook:
		words = []any{"took", c.A, c.B, c.Known}
	case api.CoBarrow:
		words = []any{"barrow", c.A, c.Known}
	case api.CoFrom:
		words = []any{"from", c.A, c.Known}
	case api.CoStands:
		words = []any{"stands", c.A}
	case api.CoGrown:
		words = []any{"grown", c.A}
	}
	switch w.Kind {
	case api.WrLoad:
		words = []any{"load", w.ID, w.Load.Hour, w.Load.Weight.Lo, w.Load.Weight.Hi}
	case api.WrDraw:
		words = []any{"draw", w.ID, w.Draw.Hour, w.Draw.Weight.Lo, w.Draw.Weight.Hi}
	case api.WrWeigh:
		words = []any{"weigh", w.ID, w.Weigh.Kind, w.Weigh.From, w.Weigh.To, w.Weigh.Sum.Lo, w.Weigh.Sum.Hi}
	case api.WrLook:
		words = []any{"look", w.ID, w.Look.At.Foot, w.Look.At.Hour, w.Look.Heat.Lo, w.Look.Heat.Hi}
	case api.WrBack:
		words = []any{"back", w.ID, w.Ref}
	}
	switch x.Kind {
	case api.StPour:
		words = []any{"pour", w.ID, x.Day, x.Pit, x.ID, x.Amount}
	case api.StTake:
		words = []any{"take", w.ID, x.Day, x.Pit, x.Amount}
	case api.StTurn:
		words = []any{"turn", w.ID, x.Day, x.Pit}
	case api.StMove:
		words = []any{"move", w.ID, x.Day, x.Pit, x.To, x.Amount}
	case api.StSpill:
		words = []any{"spill", w.ID, x.Day, x.Pit, x.Amount}
	}
	return sentence(words...)
}

// sentence returns words and numbers with one blank between each two.
func sentence(words ...any) string {
	var l []string
	for _, x := range words {
		switch x := x.(type) {
		case int:
			l = append(l, strconv.Itoa(x))
		case string:
			l = append(l, x)
		}
	}
	return strings.Join(l, " ")
}

// standBy returns the writs that stand: each one is held against all others.
func standBy(l []api.Writ, known int) []api.Writ {
	var stand []api.Writ
	for _, w := range l {
		isBack := func(x api.Writ) bool { return x.Kind == api.WrBack && x.Known <= known && x.Ref == w.ID }
		if w.Known <= known && w.Kind != api.WrBack && !slices.ContainsFunc(l, isBack) {
			stand = append(stand, w)
		}
	}
	slices.SortFunc(stand, func(v, w api.Writ) int { return v.ID - w.ID })
	return stand
}

func kilnBy(s api.Site, l []api.Writ, known int) (api.Kiln, api.Errno) {
	k := api.Kiln{Room: s.Room, PerFoot: s.PerFoot}
	for _, w := range standBy(l, known) {
		w.Load.ID, w.Draw.ID, w.Weigh.ID = w.ID, w.ID, w.ID
		switch w.Kind {
		case api.WrLoad:
			k.Loads = append(k.Loads, w.Load)
		case api.WrDraw:
			k.Draws = append(k.Draws, w.Draw)
		case api.WrWeigh:
			k.Weighs = append(k.Weighs, w.Weigh)
		}
	}
	slices.SortFunc(k.Loads, func(x, y api.Load) int { return (x.Hour-y.Hour)*api.MaxMark*2 + x.ID - y.ID })
	slices.SortFunc(k.Draws, func(x, y api.Draw) int { return (x.Hour-y.Hour)*api.MaxMark*2 + x.ID - y.ID })
	if e := shaft.Check(k); e != api.OK {
		return api.Kiln{}, e
	}
	return k, api.OK
}

func fireBy(s api.Site, l []api.Writ, known int) (api.Fire, api.Errno) {
	f := api.Fire{Rise: s.Rise, Fall: s.Fall, Up: s.Up, Down: s.Down}
	for _, w := range standBy(l, known) {
		if w.Kind == api.WrLook {
			f.Looks = append(f.Looks, api.Look{ID: w.ID, At: w.Look.At, Heat: w.Look.Heat})
		}
	}
	if e := fire.Check(f); e != api.OK {
		return api.Fire{}, e
	}
	return f, api.OK
}

func pitsBy(s api.Site, l []api.Writ, known int) (api.Pits, api.Errno) {
	var stirs []api.Writ
	drawn := map[int]bool{}
	for _, w := range standBy(l, known) {
		if w.Kind == api.WrStir {
			stirs = append(stirs, w)
		}
		drawn[w.ID] = w.Kind == api.WrDraw
	}
	slices.SortFunc(stirs, func(v, w api.Writ) int { return (v.Stir.Day-w.Stir.Day)*api.MaxMark*2 + v.ID - w.ID })
	p := api.Pits{Rooms: s.Rooms}
	isPoured := true
	for _, w := range stirs {
		if w.Stir.Kind == api.StTake {
			w.Stir.ID = w.ID
		}
		p.Stirs = append(p.Stirs, w.Stir)
		isPoured = isPoured && (w.Stir.Kind != api.StPour || drawn[w.Stir.ID])
	}
	if e, _ := pit.Check(p); e != api.OK {
		return api.Pits{}, e
	}
	if !isPoured {
		return api.Pits{}, api.ErrNone
	}
	return p, api.OK
}

// entryBy returns the entry of a writ; the digest is found with numbers of any size.
func entryBy(w api.Writ) api.Entry {
	numbers := list(w.Ref)
	switch w.Kind {
	case api.WrLoad:
		numbers = append(numbers, w.Load.Hour, w.Load.Weight.Lo, w.Load.Weight.Hi)
	case api.WrDraw:
		numbers = append(numbers, w.Draw.Hour, w.Draw.Weight.Lo, w.Draw.Weight.Hi)
	case api.WrWeigh:
		numbers = append(numbers, w.Weigh.Kind, w.Weigh.From, w.Weigh.To, w.Weigh.Sum.Lo, w.Weigh.Sum.Hi)
	case api.WrLook:
		numbers = append(numbers, w.Look.At.Foot, w.Look.At.Hour, w.Look.Heat.Lo, w.Look.Heat.Hi)
	case api.WrStir:
		numbers = append(numbers, w.Stir.Kind, w.Stir.ID, w.Stir.Day, w.Stir.Pit, w.Stir.To, w.Stir.Amount)
	}
	for len(numbers) < 8 {
		numbers = append(numbers, 0)
	}
	digest := big.NewInt(1)
	for _, n := range numbers {
		digest.Mul(digest, big.NewInt(api.Base))
		digest.Add(digest, big.NewInt(int64(n)+1))
		digest.Mod(digest, big.NewInt(api.Modulus))
	}
	return api.Entry{Day: w.Known, Kind: w.Kind, Who: w.ID, Sum: int(digest.Int64()) / 2}
}

// bookBy returns the book of writs, day by day.
func bookBy(l []api.Writ) []api.Entry {
	var entries []api.Entry
	for day := range api.MaxDay + 1 {
		for _, w := range l {
			if w.Known == day {
				entries = append(entries, entryBy(w))
			}
		}
	}
	return entries
}

// bakedBy looks at each foot of each hour on its own.
func bakedBy(s api.Site, l []api.Writ, id int, hours api.Span, need, known int) (api.Span, api.Errno) {
	k, e := kilnBy(s, l, known)
	if e != api.OK {
		return api.Span{}, e
	}
	f, e := fireBy(s, l, known)
	if e != api.OK {
		return api.Span{}, e
	}
	if !slices.ContainsFunc(k.Loads, func(x api.Load) bool { return x.ID == id }) {
		return api.Span{}, api.ErrNone
	}
	_, e = shaft.Find(k)
	_, _, clash, _ := fire.Clash(f)
	if e == api.ErrClash || clash {
		return api.Span{}, api.ErrClash
	}
	var count api.Span
	for hour := hours.Lo; hour <= hours.Hi; hour++ {
		feet, e := shaft.Feet(k, id, hour)
		if e != api.OK {
			continue
		}
		sure, maybe := 1, 0
		for foot := clamp(feet.Lo); foot <= clamp(feet.Hi); foot++ {
			b, _ := fire.Ends(f, api.Spot{Foot: foot, Hour: hour})
			if b.Span.Lo < need {
				sure = 0
			}
			if b.Span.Hi >= need {
				maybe = 1
			}
		}
		count.Lo += sure
		count.Hi += maybe
	}
	return count, api.OK
}

// clamp returns a foot, replaced by one of the shaft if it is outside.
func clamp(foot int) int {
	if foot < 0 {
		return 0
	}
	if foot > api.MaxFeet {
		return api.MaxFeet
	}
	return foot
}

func fromBy(s api.Site, l []api.Writ, id, known int) ([]int, []int, api.Errno) {
	k, e := kilnBy(s, l, known)
	if e != api.OK {
		return nil, nil, e
	}
	p, e := pitsBy(s, l, known)
	if e != api.OK {
		return nil, nil, e
	}
	parts, e := pit.Barrow(p, id)
	if e != api.OK {
		return nil, nil, e
	}
	if _, e := shaft.Find(k); e != api.OK {
		return nil, nil, e
	}
	var sure, maybe []int
	for _, x := range k.Loads {
		isSure, isMaybe := false, false
		for _, y := range parts {
			surely, possibly, _ := shaft.Sources(k, y.Pour)
			isSure = isSure || slices.Contains(surely, x.ID)
			isMaybe = isMaybe || slices.Contains(possibly, x.ID)
		}
		if isSure {
			sure = append(sure, x.ID)
		}
		if isMaybe {
			maybe = append(maybe, x.ID)
		}
	}
	slices.Sort(sure)
	slices.Sort(maybe)
	return sure, maybe, api.OK
}

// marksBy returns the kiln and the marks of a question about a weight or a place.
func marksBy(s api.Site, l []api.Writ, q api.Command) (api.Kiln, int, int, api.Errno) {
	k, e := kilnBy(s, l, q.Known)
	if e != api.OK {
		return k, 0, 0, e
	}
	for i, x := range k.Loads {
		if x.ID != q.A {
			continue
		}
		if q.Kind == api.CoWeight {
			return k, i, i + 1, api.OK
		}
		if x.Hour > q.B {
			return k, 0, 0, api.ErrArg
		}
		drawn := 0
		for j, y := range k.Draws {
			if y.Hour <= q.B {
				drawn = len(k.Loads) + j + 1
			}
		}
		return k, drawn, i, api.OK
	}
	for j, y := range k.Draws {
		if y.ID != q.A || q.Kind != api.CoWeight {
			continue
		}
		if j == 0 {
			return k, 0, len(k.Loads) + 1, api.OK
		}
		return k, len(k.Loads) + j, len(k.Loads) + j + 1, api.OK
	}
	return k, 0, 0, api.ErrNone
}

// answerBy returns the reply to a question about writs that are right.
func answerBy(s api.Site, l []api.Writ, q api.Command) api.Reply {
	var r api.Reply
	e := api.ErrForm
	switch q.Kind {
	case api.CoWeight, api.CoWhere:
		r, e = stretchBy(s, l, q)
	case api.CoHeat:
		var f api.Fire
		if f, e = fireBy(s, l, q.Known); e == api.OK {
			r.Bounds, e = fire.Ends(f, api.Spot{Foot: q.A, Hour: q.B})
		}
	case api.CoBaked:
		r.Span, e = bakedBy(s, l, q.A, span(q.B, q.C), q.D, q.Known)
	case api.CoTook:
		var k api.Kiln
		if k, e = kilnBy(s, l, q.Known); e == api.OK {
			r.Span, e = shaft.Took(k, q.A, q.B)
		}
	case api.CoBarrow:
		var p api.Pits
		if p, e = pitsBy(s, l, q.Known); e == api.OK {
			r.Parts, e = pit.Barrow(p, q.A)
		}
	case api.CoFrom:
		r.Sure, r.Maybe, e = fromBy(s, l, q.A, q.Known)
	case api.CoStands, api.CoGrown:
		r, e = bookReplyBy(l, q)
	}
	if e != api.OK {
		return api.Reply{Err: e}
	}
	return r
}

// stretchBy tells weights and places by other functions of package shaft than those that chains are made by.
func stretchBy(s api.Site, l []api.Writ, q api.Command) (api.Reply, api.Errno) {
	k, a, b, e := marksBy(s, l, q)
	if e != api.OK {
		return api.Reply{}, e
	}
	var r api.Reply
	if q.Kind == api.CoWeight {
		r.Span, e = shaft.Weight(k, q.A)
	} else {
		r.Span, e = shaft.Feet(k, q.A, q.B)
	}
	r.High, _ = shaft.Above(k, a, b)
	r.Low, _ = shaft.Above(k, b, a)
	return r, e
}

func bookReplyBy(l []api.Writ, q api.Command) (api.Reply, api.Errno) {
	entries := bookBy(l)
	r := api.Reply{Many: len(entries)}
	e := api.OK
	r.Root, _ = book.Root(entries)
	if q.Kind == api.CoStands {
		r.Twigs, e = book.Stands(entries, q.A)
	} else {
		r.Twigs, e = book.Grown(entries, q.A)
	}
	if e != api.OK {
		return r, api.ErrNone
	}
	return r, api.OK
}

// rightBy reports whether a reply to a question about writs that are right is right.
func rightBy(s api.Site, l []api.Writ, q api.Command, r api.Reply) bool {
	want := answerBy(s, l, q)
	if want.Err == api.OK && (q.Kind == api.CoWeight || q.Kind == api.CoWhere) {
		k, a, b, _ := marksBy(s, l, q)
		if r.High.Most != want.High.Most || r.Low.Most != want.Low.Most || shaft.CheckAbove(k, a, b, r.High) != api.OK || shaft.CheckAbove(k, b, a, r.Low) != api.OK {
			return false
		}
		r.High, r.Low = want.High, want.Low
	}
	if want.Err == api.OK && q.Kind == api.CoHeat {
		f, _ := fireBy(s, l, q.Known)
		if fire.CheckEnds(f, api.Spot{Foot: q.A, Hour: q.B}, r.Bounds) != api.OK {
			return false
		}
		r.Bounds = want.Bounds
	}
	return equalReplies(r, want)
}

// writtenBy does commands one by one, and returns the replies, and the writs and the day behind each one.
func writtenBy(s api.Script) ([]api.Reply, [][]api.Writ, []int) {
	var replies []api.Reply
	var books [][]api.Writ
	var days []int
	var l []api.Writ
	day := 0
	for _, c := range s.Commands {
		var r api.Reply
		switch c.Kind {
		case api.CoDay:
			if c.A < day {
				r.Err = api.ErrArg
			} else {
				day = c.A
			}
		case api.CoWrit:
			more := append(slices.Clone(l), on(day, c.Writ)...)
			if r.Err = works.CheckWrits(s.Site, more); r.Err == api.OK {
				l = more
			}
		default:
			r = answerBy(s.Site, l, c)
		}
		replies, books, days = append(replies, r), append(books, l), append(days, day)
	}
	return replies, books, days
}

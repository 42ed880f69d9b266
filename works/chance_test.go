package works_test

import (
	"math/rand/v2"
	"slices"

	"calx/api"
)

// chance makes works at random, the same for the same seed.
type chance struct{ *rand.Rand }

func chanceOf(seed uint64) chance { return chance{rand.New(rand.NewPCG(seed, 10))} }

// from returns a number from lo to hi.
func (c chance) from(lo, hi int) int { return lo + c.IntN(hi-lo+1) }

// around returns a span within 0 to most that has a number in it: often a narrow one.
func (c chance) around(n, wide, most int) api.Span {
	if c.IntN(3) == 0 {
		wide = 0
	}
	return span(max(0, n-c.IntN(wide+1)), min(most, n+c.IntN(wide+1)))
}

// course is what was really so at a site, and what is written about it.
type course struct {
	site  api.Site
	loads []api.Load // by Hour, and then by ID; both ends of a weight are the true one
	draws []api.Draw
	seeds []api.Look // no heat is greater than what these allow
	ids   []int      // IDs that nothing has yet
	writs []api.Writ
}

func (c chance) site() api.Site {
	s := api.Site{Room: c.from(40, 120), PerFoot: c.from(1, 12), Rise: c.IntN(40), Fall: c.IntN(40), Up: c.IntN(40), Down: c.IntN(40)}
	for range c.from(1, 3) {
		s.Rooms = append(s.Rooms, c.from(20, 60))
	}
	return s
}

// lastHour is the last hour of a course.
const lastHour = 30

// course returns true works; what is written about them is true, and known from the beginning.
func (c chance) course() *course {
	w := &course{site: c.site(), ids: c.Perm(99)}
	for i := range w.ids {
		w.ids[i]++
		if c.IntN(9) == 0 {
			w.ids[i] = api.MaxMark + 1 - w.ids[i]
		}
	}
	c.charge(w)
	for range c.from(1, 4) {
		w.seeds = append(w.seeds, api.Look{At: api.Spot{Foot: c.IntN(12), Hour: c.IntN(lastHour)}, Heat: span(0, c.from(300, 1300))})
	}
	for range c.IntN(5) {
		c.weigh(w)
		c.look(w)
	}
	for range c.IntN(14) {
		c.stir(w)
	}
	c.Shuffle(len(w.writs), func(i, k int) { w.writs[i], w.writs[k] = w.writs[k], w.writs[i] })
	return w
}

// id returns an ID that nothing else has.
func (w *course) id() int {
	id := w.ids[0]
	w.ids = w.ids[1:]
	return id
}

// charge lets loads be charged, and draws be drawn.
func (c chance) charge(w *course) {
	for range c.from(1, 5) {
		w.loads = append(w.loads, api.Load{ID: w.id(), Hour: c.IntN(lastHour)})
	}
	for range c.IntN(5) {
		w.draws = append(w.draws, api.Draw{ID: w.id(), Hour: c.IntN(lastHour)})
	}
	slices.SortFunc(w.loads, func(x, y api.Load) int { return (x.Hour-y.Hour)*api.MaxMark*2 + x.ID - y.ID })
	slices.SortFunc(w.draws, func(x, y api.Draw) int { return (x.Hour-y.Hour)*api.MaxMark*2 + x.ID - y.ID })
	for i, x := range w.loads {
		most := w.site.Room - w.charged(i) + w.drawn(x.Hour-1)
		weight := c.IntN(min(30, most) + 1)
		w.loads[i].Weight = span(weight, weight)
		// Draws are drawn as soon as nothing more is charged ahead of them.
		for k, y := range w.draws {
			if y.Hour >= x.Hour && (i+1 == len(w.loads) || y.Hour < w.loads[i+1].Hour) {
				weight := c.IntN(w.charged(i+1) - w.drawnFirst(k) + 1)
				w.draws[k].Weight = span(weight, weight)
			}
		}
	}
	for _, x := range w.loads {
		s := c.around(x.Weight.Lo, 10, api.MaxWeight)
		w.writs = append(w.writs, load(x.ID, x.Hour, s.Lo, s.Hi))
	}
	for _, x := range w.draws {
		s := c.around(x.Weight.Lo, 10, api.MaxWeight)
		w.writs = append(w.writs, draw(x.ID, x.Hour, s.Lo, s.Hi))
	}
}

// charged returns what the first loads really weigh.
func (w *course) charged(many int) int {
	sum := 0
	for _, x := range w.loads[:many] {
		sum += x.Weight.Lo
	}
	return sum
}

// drawnFirst returns what the first draws really weigh.
func (w *course) drawnFirst(many int) int {
	sum := 0
	for _, x := range w.draws[:many] {
		sum += x.Weight.Lo
	}
	return sum
}

// drawn returns what was really drawn by an hour.
func (w *course) drawn(hour int) int {
	many := 0
	for many < len(w.draws) && w.draws[many].Hour <= hour {
		many++
	}
	return w.drawnFirst(many)
}

// held returns what was really in the shaft behind an hour.
func (w *course) held(hour int) int {
	many := 0
	for many < len(w.loads) && w.loads[many].Hour <= hour {
		many++
	}
	return w.charged(many) - w.drawn(hour)
}

// below returns what really lay below a load behind an hour.
func (w *course) below(i, hour int) int { return w.charged(i) - w.drawn(hour) }

// heat returns how hot it really was: the least that the seeds allow.
func (w *course) heat(foot, hour int) int {
	heat := api.MaxHeat
	for _, x := range w.seeds {
		feet, hours := foot-x.At.Foot, hour-x.At.Hour
		far := max(feet, 0)*w.site.Up + max(-feet, 0)*w.site.Down + max(hours, 0)*w.site.Rise + max(-hours, 0)*w.site.Fall
		heat = min(heat, x.Heat.Hi+far)
	}
	return heat
}

// weigh lets something be weighed.
func (c chance) weigh(w *course) {
	kind := c.from(api.WgLoads, api.WgHeld)
	from, to, sum := 0, 0, 0
	switch {
	case kind == api.WgLoads:
		i := c.IntN(len(w.loads))
		k := c.from(i, len(w.loads)-1)
		from, to, sum = w.loads[i].ID, w.loads[k].ID, w.charged(k+1)-w.charged(i)
	case kind == api.WgDraws && len(w.draws) > 0:
		i := c.IntN(len(w.draws))
		k := c.from(i, len(w.draws)-1)
		from, to, sum = w.draws[i].ID, w.draws[k].ID, w.drawnFirst(k+1)-w.drawnFirst(i)
	default:
		kind, from = api.WgHeld, c.IntN(lastHour)
		sum = w.held(from)
	}
	s := c.around(sum, 6, api.MaxMark)
	w.writs = append(w.writs, weigh(w.id(), kind, from, to, s.Lo, s.Hi))
}

// look lets somebody look at the fire.
func (c chance) look(w *course) {
	foot, hour := c.IntN(12), c.IntN(lastHour)
	s := c.around(w.heat(foot, hour), 60, api.MaxHeat)
	w.writs = append(w.writs, look(w.id(), foot, hour, s.Lo, s.Hi))
}

// stir lets something be done in the pits, if it can be done.
func (c chance) stir(w *course) {
	day, at, amount := c.IntN(6), c.IntN(len(w.site.Rooms)), c.from(1, 12)
	x := turn(w.id(), day, at)
	switch c.IntN(7) {
	case 0, 1, 2:
		if len(w.draws) == 0 {
			return
		}
		x = pour(x.ID, day, at, w.draws[c.IntN(len(w.draws))].ID, amount+8)
	case 3, 4:
		x = take(x.ID, day, at, amount)
	case 5:
		to := (at + 1) % len(w.site.Rooms)
		if c.IntN(2) == 0 || to == at {
			x = spill(x.ID, day, at, amount)
		} else {
			x = move(x.ID, day, at, to, amount)
		}
	}
	if _, e := pitsBy(w.site, append(slices.Clone(w.writs), x), 0); e == api.OK {
		w.writs = append(w.writs, x)
	}
}

// later lets what is told of a course, but for what was charged and drawn, come to be known day by day; what is false is withdrawn some day.
func (c chance) later(w *course) {
	for i, x := range w.writs {
		if x.Kind == api.WrWeigh || x.Kind == api.WrLook {
			w.writs[i].Known = c.IntN(10)
		}
	}
	for range c.IntN(4) {
		x := c.lie(w)
		x.Known = c.IntN(10)
		y := back(w.id(), x.ID)
		y.Known = c.IntN(10)
		w.writs = append(w.writs, x, y)
	}
	c.Shuffle(len(w.writs), func(i, k int) { w.writs[i], w.writs[k] = w.writs[k], w.writs[i] })
}

// lie returns a writ that need not be true.
func (c chance) lie(w *course) api.Writ {
	id, n := w.id(), c.IntN(20)
	switch c.IntN(6) {
	case 0:
		return load(id, c.IntN(lastHour), n, n+c.IntN(9))
	case 1:
		return draw(id, c.IntN(lastHour), n, n+c.IntN(9))
	case 2:
		return weigh(id, api.WgHeld, c.IntN(lastHour), 0, n, n+c.IntN(9))
	case 3:
		return weigh(id, c.from(api.WgLoads, api.WgDraws), c.any(w), c.any(w), n, n+c.IntN(30))
	case 4:
		return look(id, c.IntN(12), c.IntN(lastHour), 50*n, 50*n+c.IntN(100))
	}
	x := pour(id, c.IntN(6), 0, c.any(w), 1+n)
	if c.IntN(2) == 0 {
		x = take(id, c.IntN(6), c.IntN(len(w.site.Rooms)), 1+n)
	}
	return x
}

// any returns an ID: mostly that of a writ.
func (c chance) any(w *course) int {
	if len(w.writs) == 0 || c.IntN(9) == 0 {
		return c.from(1, 99)
	}
	return w.writs[c.IntN(len(w.writs))].ID
}

// of returns the ID of a writ of a kind: mostly one that there is.
func (c chance) of(w *course, is func(x api.Writ) bool) int {
	var l []int
	for _, x := range w.writs {
		if is(x) {
			l = append(l, x.ID)
		}
	}
	if len(l) == 0 || c.IntN(12) == 0 {
		return c.any(w)
	}
	return l[c.IntN(len(l))]
}

func isLoad(x api.Writ) bool { return x.Kind == api.WrLoad }

func isDraw(x api.Writ) bool { return x.Kind == api.WrDraw }

func isEither(x api.Writ) bool { return isLoad(x) || isDraw(x) }

func isTake(x api.Writ) bool { return x.Stir.Kind == api.StTake }

// question returns a question about a course, of any kind.
func (c chance) question(w *course, known int) api.Command {
	hour := c.IntN(lastHour + 5)
	switch c.from(api.CoWeight, api.CoGrown) {
	case api.CoWeight:
		return weight(c.of(w, isEither), known)
	case api.CoWhere:
		return where(c.of(w, isLoad), hour, known)
	case api.CoHeat:
		return heat(c.IntN(14), hour, known)
	case api.CoBaked:
		return baked(c.of(w, isLoad), hour, hour+c.IntN(20), c.from(200, 1200), known)
	case api.CoTook:
		return took(c.of(w, isDraw), c.of(w, isLoad), known)
	case api.CoBarrow:
		return barrow(c.of(w, isTake), known)
	case api.CoFrom:
		return from(c.of(w, isTake), known)
	case api.CoStands:
		return stands(c.IntN(len(w.writs) + 1))
	}
	return grown(c.IntN(len(w.writs) + 2))
}

// wild returns a course in which some things are told that are not true, and do not fit together.
func (c chance) wild() *course {
	w := c.course()
	c.later(w)
	for range c.IntN(3) {
		w.writs = append(w.writs, on(c.IntN(10), c.lie(w))...)
	}
	for range c.IntN(3) {
		w.writs = append(w.writs, on(c.IntN(10), back(w.id(), c.any(w)))...)
	}
	c.Shuffle(len(w.writs), func(i, k int) { w.writs[i], w.writs[k] = w.writs[k], w.writs[i] })
	w.writs = w.writs[:min(len(w.writs), api.MaxWrits)]
	return w
}

// script returns a script in which a course is written, and asked about; some commands are not done.
func (c chance) script(w *course) api.Script {
	s := api.Script{Site: w.site}
	day := 0
	for _, x := range w.writs {
		x.Known = 0
		s.Commands = append(s.Commands, write(x))
		switch c.IntN(8) {
		case 0:
			day = max(0, day+c.from(-1, 3))
			s.Commands = append(s.Commands, dayOf(day))
		case 1:
			s.Commands = append(s.Commands, write(x))
		case 2:
			s.Commands = append(s.Commands, write(take(w.id(), 1, c.IntN(api.MaxPits), 1)))
		}
		s.Commands = append(s.Commands, c.question(w, c.IntN(10)))
	}
	for len(s.Commands) < api.MaxScript {
		s.Commands = append(s.Commands, c.question(w, c.IntN(10)))
	}
	s.Commands = s.Commands[:api.MaxScript]
	return s
}

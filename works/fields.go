package works

import "calx/api"

// field is a number of a command, and what it has to be; that may hang on the fields ahead of it.
type field struct {
	at          *int
	least, most int
}

func (f field) isRight() bool { return isWithin(*f.at, f.least, f.most) }

// isFormed reports whether a command is formed. It is given a copy of it, which it can empty to see whether anything else is told.
func isFormed(c api.Command) bool {
	if _, ok := wordOf(c); !ok || goesNowhere(c.Writ.Stir) {
		return false
	}
	fields := fieldsOf(&c)
	if !all(fields, field.isRight) {
		return false
	}
	for _, f := range fields {
		*f.at = 0
	}
	return c == kindsOf(c).blank()
}

// goesNowhere reports whether a step moves something to where it is.
func goesNowhere(x api.Stir) bool { return x.Kind == api.StMove && x.Pit == x.To }

// fieldsOf returns the fields of a command in which its numbers stand, in the order of its line.
func fieldsOf(c *api.Command) []field {
	switch c.Kind {
	case api.CoDay:
		return []field{dayAt(&c.A)}
	case api.CoWrit:
		return append([]field{numberAt(&c.Writ.ID)}, fieldsOfWrit(&c.Writ)...)
	case api.CoWeight, api.CoBarrow, api.CoFrom:
		return []field{numberAt(&c.A), dayAt(&c.Known)}
	case api.CoWhere:
		return []field{numberAt(&c.A), hourAt(&c.B), dayAt(&c.Known)}
	case api.CoHeat:
		return []field{footAt(&c.A), hourAt(&c.B), dayAt(&c.Known)}
	case api.CoBaked:
		last := field{&c.C, c.B, min(api.MaxHour, c.B+api.MaxBake-1)}
		return []field{numberAt(&c.A), hourAt(&c.B), last, heatAt(&c.D), dayAt(&c.Known)}
	case api.CoTook:
		return []field{numberAt(&c.A), numberAt(&c.B), dayAt(&c.Known)}
	case api.CoStands:
		return []field{{&c.A, 0, api.MaxWrits - 1}}
	case api.CoGrown:
		return []field{{&c.A, 0, api.MaxWrits}}
	}
	return nil
}

// fieldsOfWrit returns the fields of a writ, but for its ID.
func fieldsOfWrit(w *api.Writ) []field {
	switch w.Kind {
	case api.WrLoad:
		return append([]field{hourAt(&w.Load.Hour)}, spanAt(&w.Load.Weight, api.MaxWeight)...)
	case api.WrDraw:
		return append([]field{hourAt(&w.Draw.Hour)}, spanAt(&w.Draw.Weight, api.MaxWeight)...)
	case api.WrWeigh:
		return append(fieldsOfWeigh(&w.Weigh), spanAt(&w.Weigh.Sum, api.MaxMark)...)
	case api.WrLook:
		return append([]field{footAt(&w.Look.At.Foot), hourAt(&w.Look.At.Hour)}, spanAt(&w.Look.Heat, api.MaxHeat)...)
	case api.WrStir:
		return append([]field{dayAt(&w.Stir.Day), pitAt(&w.Stir.Pit)}, fieldsOfStir(&w.Stir)...)
	case api.WrBack:
		return []field{numberAt(&w.Ref)}
	}
	return nil
}

// fieldsOfWeigh returns the fields of a weighing, but for its sum.
func fieldsOfWeigh(x *api.Weigh) []field {
	kind := field{&x.Kind, api.WgLoads, api.WgHeld}
	if x.Kind == api.WgHeld {
		return []field{kind, hourAt(&x.From), {&x.To, 0, 0}}
	}
	return []field{kind, numberAt(&x.From), numberAt(&x.To)}
}

// fieldsOfStir returns the fields of a step, but for its day and its pit.
func fieldsOfStir(x *api.Stir) []field {
	amount := field{&x.Amount, 1, api.MaxAmount}
	switch x.Kind {
	case api.StPour:
		return []field{numberAt(&x.ID), amount}
	case api.StTake, api.StSpill:
		return []field{amount}
	case api.StMove:
		return []field{pitAt(&x.To), amount}
	}
	return nil
}

// spanAt returns the fields of a span within 0 to most.
func spanAt(s *api.Span, most int) []field { return []field{{&s.Lo, 0, most}, {&s.Hi, s.Lo, most}} }

func numberAt(at *int) field { return field{at, 1, api.MaxMark} }

func dayAt(at *int) field { return field{at, 0, api.MaxDay} }

func hourAt(at *int) field { return field{at, 0, api.MaxHour} }

func footAt(at *int) field { return field{at, 0, api.MaxFeet} }

func heatAt(at *int) field { return field{at, 0, api.MaxHeat} }

func pitAt(at *int) field { return field{at, 0, api.MaxPits - 1} }

package tally_test

import (
	"math"
	"slices"
	"testing"

	"calx/api"
	"calx/tally"
)

// changed is the example, changed.
func changed(change func(b *api.Bundle)) api.Bundle {
	b := example()
	change(&b)
	return b
}

// many returns right tallies with IDs from one on.
func many(from, count int) []api.Tally {
	var l []api.Tally
	for i := range count {
		l = append(l, stick(from+i, 1, 1, 2, 3))
	}
	return l
}

// faults are bundles, each with its first error.
func faults() []struct {
	b    api.Bundle
	want api.Errno
} {
	put := func(foil bool, at int, x api.Tally) api.Bundle {
		return changed(func(b *api.Bundle) {
			if foil {
				b.Foils[at] = x
			} else {
				b.Stocks[at] = x
			}
		})
	}
	type fault = struct {
		b    api.Bundle
		want api.Errno
	}
	l := []fault{{api.Bundle{}, api.ErrArg}, {changed(func(b *api.Bundle) { b.Worths = nil }), api.ErrArg}}
	for _, n := range list(-1, api.MaxFee+1, math.MinInt, math.MaxInt) {
		l = append(l,
			fault{changed(func(b *api.Bundle) { b.Wrong = n }), api.ErrArg},
			fault{changed(func(b *api.Bundle) { b.Worn = n }), api.ErrArg},
			fault{changed(func(b *api.Bundle) { b.LostStock = n }), api.ErrArg},
			fault{changed(func(b *api.Bundle) { b.LostFoil = n }), api.ErrArg})
	}
	for _, n := range list(-1, api.MaxNotchIn+1, math.MinInt, math.MaxInt) {
		for place := range 3 {
			l = append(l, fault{changed(func(b *api.Bundle) { b.Worths[place] = n }), api.ErrArg})
		}
	}
	long := slices.Repeat(list(1), api.MaxNotches+1)
	l = append(l, fault{changed(func(b *api.Bundle) { b.Worths, b.Stocks, b.Foils = long, nil, nil }), api.ErrArg},
		fault{changed(func(b *api.Bundle) { b.Worths, b.Stocks, b.Foils = nil, nil, nil }), api.ErrArg})
	for _, foil := range []bool{false, true} {
		for at := range 3 {
			for _, x := range sticks(
				stick(0, 1, 1, 2, 3), stick(-1, 1, 1, 2, 3), stick(api.MaxID+1, 1, 1, 2, 3), stick(math.MinInt, 1, 1, 2, 3), stick(math.MaxInt, 1, 1, 2, 3),
				stick(77, -1, 1, 2, 3), stick(77, api.MaxPerson+1, 1, 2, 3), stick(77, math.MinInt, 1, 2, 3), stick(77, math.MaxInt, 1, 2, 3),
				stick(77, 1), stick(77, 1, 1, 2), stick(77, 1, 1, 2, 3, 4),
				stick(77, 1, 1, 2, 10), stick(77, 1, 1, -2, 3), stick(77, 1, math.MinInt, 2, 3), stick(77, 1, 1, math.MaxInt, 3),
			) {
				l = append(l, fault{put(foil, at, x), api.ErrArg})
			}
		}
	}
	twice := stick(1, 1, 1, 2, 3)
	l = append(l,
		fault{put(false, 1, twice), api.ErrTwice}, fault{put(false, 2, twice), api.ErrTwice}, fault{put(true, 0, twice), api.ErrTwice}, fault{put(true, 2, twice), api.ErrTwice}, fault{put(true, 2, stick(12, 0, 0, 0, 0)), api.ErrTwice},
		fault{of(many(1, api.MaxTallies+1), nil), api.ErrLimit}, fault{of(nil, many(1, api.MaxTallies+1)), api.ErrLimit}, fault{of(many(1, api.MaxTallies+1), many(1, api.MaxTallies+1)), api.ErrLimit},
		// The fees and worths come ahead of the limits, and these ahead of all tallies.
		fault{changed(func(b *api.Bundle) { b.LostFoil, b.Stocks = -1, many(1, 99) }), api.ErrArg},
		fault{changed(func(b *api.Bundle) { b.Worths, b.Foils = nil, many(1, 99) }), api.ErrArg},
		fault{of(make([]api.Tally, api.MaxTallies+1), nil), api.ErrLimit}, fault{of(sticks(twice, twice), many(1, 99)), api.ErrLimit},
		fault{of(make([]api.Tally, api.MaxTallies), nil), api.ErrArg},
		// All errors of a tally come ahead of those of the next one, the stocks ahead of the foils; the ErrArg of one ahead of its ErrTwice.
		fault{of(sticks(twice, twice, stick(0, 1)), nil), api.ErrTwice}, fault{of(sticks(twice, stick(0, 1), twice), nil), api.ErrArg},
		fault{of(sticks(twice, stick(1, 1, 1, 2)), nil), api.ErrArg}, fault{of(sticks(twice), sticks(twice, stick(0, 1))), api.ErrTwice},
		fault{of(sticks(twice, twice), sticks(stick(0, 1))), api.ErrTwice}, fault{of(sticks(twice, stick(0, 1)), sticks(twice)), api.ErrArg})
	return l
}

func TestCheck(t *testing.T) {
	for i, x := range faults() {
		if e := tally.Check(x.b); e != x.want {
			t.Error("P7.1:", i, e, x.b)
		}
	}
	ends := stick(api.MaxID, api.MaxPerson, slices.Repeat(list(api.MaxNotch, worn), api.MaxNotches/2)...)
	other := stick(1, 0, slices.Repeat(list(0), api.MaxNotches)...)
	for i, b := range []api.Bundle{
		example(), of(nil, nil), of(sticks(), sticks()), of(many(1, api.MaxTallies), nil), of(nil, many(1, api.MaxTallies)), of(many(1, api.MaxTallies), many(100, api.MaxTallies)),
		{Worths: list(0)}, {Worths: list(api.MaxNotchIn)}, {Wrong: api.MaxFee, Worn: api.MaxFee, LostStock: api.MaxFee, LostFoil: api.MaxFee, Worths: slices.Repeat(list(7), api.MaxNotches)},
		{Worths: slices.Repeat(list(7), api.MaxNotches), Stocks: sticks(ends), Foils: sticks(other)}, {Worths: slices.Repeat(list(7), api.MaxNotches), Stocks: sticks(other), Foils: sticks(ends)},
	} {
		if e := tally.Check(b); e != api.OK {
			t.Error("P7.1:", i, e, b)
		}
	}
}

// answers is what all functions of a bundle answer, as texts of what they tell besides their errors.
type answers struct {
	errs  map[string]api.Errno
	empty map[string]bool
}

func answersOf(b api.Bundle, id, stock, foil, place, who int, given []int) answers {
	x := answers{map[string]api.Errno{}, map[string]bool{}}
	put := func(name string, e api.Errno, empty bool) { x.errs[name], x.empty[name] = e, empty }
	text, e := tally.Print(b)
	put("Print", e, text == "")
	value, e := tally.Value(b, id)
	put("Value", e, value == api.Span{})
	cost, e := tally.Cost(b, stock, foil)
	put("Cost", e, cost == 0)
	total, e := tally.Total(b, given)
	put("Total", e, total == 0)
	m, e := tally.Best(b)
	put("Best", e, len(m.Given) == 0 && m.Cost == 0 && len(m.Stocks) == 0 && len(m.Foils) == 0)
	put("CheckBest", tally.CheckBest(b, api.Match{Given: given, Cost: -1}), true)
	sure, e := tally.Sure(b)
	put("Sure", e, len(sure) == 0)
	possible, e := tally.Possible(b)
	put("Possible", e, len(possible) == 0)
	made, e := tally.Made(b, stock, foil)
	put("Made", e, made == 0)
	missed, e := tally.Missed(b, stock, foil)
	put("Missed", e, missed == 0)
	other, cost, e := tally.Other(b, given)
	put("Other", e, len(other) == 0 && cost == 0)
	stocks, foils, e := tally.Lost(b)
	put("Lost", e, len(stocks) == 0 && len(foils) == 0)
	owed, e := tally.Owed(b, who)
	put("Owed", e, owed == api.Span{})
	mended, e := tally.Mended(b, stock, foil)
	put("Mended", e, len(mended) == 0)
	worse, e := tally.Worse(b, id, place)
	put("Worse", e, isNoBundle(worse))
	without, e := tally.Without(b, list(id))
	put("Without", e, isNoBundle(without))
	return x
}

// promises tells which promise is about each function.
func promiseOf(name string) string {
	switch name {
	case "Print":
		return "P7.2:"
	case "Value", "Cost", "Total":
		return "P7.3:"
	case "Best", "CheckBest":
		return "P7.4:"
	case "Sure", "Possible", "Lost":
		return "P7.5:"
	case "Made", "Missed":
		return "P7.6:"
	case "Other":
		return "P7.7:"
	case "Owed":
		return "P7.8:"
	case "Mended":
		return "P7.9:"
	}
	return "P7.10:"
}

// checkAnswers checks the errors of all functions; those that are not named are want.
func checkAnswers(t *testing.T, i int, x answers, want api.Errno, others map[string]api.Errno) {
	t.Helper()
	for name, e := range x.errs {
		should, ok := others[name]
		if !ok {
			should = want
		}
		if e != should || e != api.OK && !x.empty[name] {
			t.Error(promiseOf(name), name, i, e, should, x.empty[name])
		}
	}
}

// TestErrorsOfCheck: all functions return the error of Check first, and nothing else.
func TestErrorsOfCheck(t *testing.T) {
	for i, x := range faults() {
		checkAnswers(t, i, answersOf(x.b, 11, 1, 11, 0, 7, list(0, 0, 0)), x.want, nil)
		// Nor do wrong arguments come ahead of it.
		checkAnswers(t, i, answersOf(x.b, -1, 0, 0, -1, -1, list(99)), x.want, nil)
	}
}

// TestErrors: the other errors, in their order, and nothing besides them.
func TestErrors(t *testing.T) {
	b := example()
	// None of these asks for a way, a person or a place, or has an ID.
	always := map[string]api.Errno{"CheckBest": api.ErrProof}
	for _, name := range []string{"Print", "Best", "Sure", "Possible", "Lost", "Without"} {
		always[name] = api.OK
	}
	with := func(more map[string]api.Errno) map[string]api.Errno {
		all := map[string]api.Errno{}
		for _, m := range []map[string]api.Errno{always, more} {
			for name, e := range m {
				all[name] = e
			}
		}
		return all
	}
	right := list(11, 0, 13)
	checkAnswers(t, 0, answersOf(b, 13, 1, 11, 2, api.MaxPerson, right), api.OK, always)
	for i, id := range list(0, -1, 4, 21, 7, api.MaxID, math.MinInt, math.MaxInt) {
		none := map[string]api.Errno{"Value": api.ErrNone, "Worse": api.ErrNone}
		checkAnswers(t, i, answersOf(b, id, 1, 11, 2, 0, right), api.OK, with(none))
		checkAnswers(t, i, answersOf(b, id, 1, 11, -1, 0, right), api.OK, with(none))
	}
	for i, place := range list(-1, 3, math.MinInt, math.MaxInt) {
		checkAnswers(t, i, answersOf(b, 1, 1, 11, place, 0, right), api.OK, with(map[string]api.Errno{"Worse": api.ErrArg}))
	}
	for i, who := range list(-1, api.MaxPerson+1, math.MinInt, math.MaxInt) {
		checkAnswers(t, i, answersOf(b, 1, 1, 11, 0, who, right), api.OK, with(map[string]api.Errno{"Owed": api.ErrArg}))
	}
	for i, given := range [][]int{nil, {}, {0, 0}, {0, 0, 0, 0}, {11, 11, 0}, {11, 0, 11}, {0, 13, 13}, {1, 0, 0}, {0, 2, 0}, {0, 0, 14}, {0, 0, -1}, {math.MaxInt, math.MinInt, 0}} {
		checkAnswers(t, i, answersOf(b, 1, 1, 11, 0, 0, given), api.OK, with(map[string]api.Errno{"Total": api.ErrArg, "Other": api.ErrArg}))
	}
	for i, p := range pairs(4, 11, 1, 4, 11, 1, 1, 2, 11, 12, 0, 1, 11, 0, 0, 4, 4, 0, -1, 11, 1, -1, -1, -1, 7, 21, math.MinInt, math.MaxInt) {
		checkAnswers(t, i, answersOf(b, 1, p.Stock, p.Foil, 0, 0, right), api.OK, with(map[string]api.Errno{"Cost": api.ErrNone, "Made": api.ErrNone, "Missed": api.ErrNone, "Mended": api.ErrNone}))
	}
	half := map[string]api.Errno{"Cost": api.ErrNone, "Mended": api.ErrNone}
	checkAnswers(t, 1, answersOf(b, 1, 0, 11, 0, 0, right), api.OK, with(half))
	checkAnswers(t, 2, answersOf(b, 1, 3, 0, 0, 0, right), api.OK, with(half))
	half["Made"], half["Missed"] = api.ErrArg, api.ErrArg
	checkAnswers(t, 3, answersOf(b, 1, 0, 0, 0, 0, right), api.OK, with(half))
}

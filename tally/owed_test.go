package tally_test

import (
	"slices"
	"testing"

	"calx/api"
	"calx/tally"
)

// checkOwed checks what somebody owes.
func checkOwed(t *testing.T, b api.Bundle, who, lo, hi int) {
	t.Helper()
	if s, e := tally.Owed(b, who); s != (api.Span{Lo: lo, Hi: hi}) || e != api.OK {
		t.Error("P7.8:", who, s, e, lo, hi)
	}
}

func TestOwed(t *testing.T) {
	b := example()
	checkOwed(t, b, 22, 239, 244)
	checkOwed(t, b, 21, 234, 234)
	// Those to whom stocks belong owe nothing, nor do others.
	for _, who := range list(0, 7, 23, api.MaxPerson) {
		checkOwed(t, b, who, 0, 0)
	}
	for _, x := range []api.Bundle{of(nil, nil), of(b.Stocks, nil), of(nil, b.Foils)} {
		checkOwed(t, x, 22, 0, 0)
	}
	// What is worn in a stock is worth nothing at least, whatever its foil tells.
	checkOwed(t, of(sticks(stick(1, 7, worn, 3, 4)), sticks(stick(11, 0, 2, 3, 4))), 0, 34, 34)
	// Two stocks of other worths for one foil: one of them has it.
	two := api.Bundle{Wrong: 1, LostStock: 5, LostFoil: 5, Worths: list(1000, 1), Stocks: sticks(stick(1, 0, 9, 1), stick(2, 0, 8, 1)), Foils: sticks(stick(3, 4, 7, 1))}
	checkOwed(t, two, 4, 8001, 9001)
	two.Foils = append(two.Foils, stick(4, 5, 7, 1))
	checkOwed(t, two, 4, 8001, 9001)
	checkOwed(t, two, 5, 8001, 9001)
	two.Foils[1].Who = 4
	checkOwed(t, two, 4, 17002, 17002)
	// A way that is a bit cheaper comes ahead of one in which far more is owed.
	far := api.Bundle{Wrong: 1, LostStock: 11, LostFoil: 0, Worths: slices.Repeat(list(1000), 12), Stocks: sticks(stick(1, 0, slices.Repeat(list(9), 12)...)), Foils: sticks(stick(2, 3, slices.Repeat(list(8), 12)...))}
	checkOwed(t, far, 3, 0, 0)
	far.LostFoil = 1
	checkOwed(t, far, 3, 0, 108000)
	far.LostFoil = 2
	checkOwed(t, far, 3, 108000, 108000)
}

// TestManyOwed: P7.8; and what P7.16 tells of each cheapest way.
func TestManyOwed(t *testing.T) {
	wide := 0
	manyBundles(t, 81, 600, func(t *testing.T, c chance, b api.Bundle, x courses) {
		all := 0
		for _, s := range b.Stocks {
			v, _ := tally.Value(b, s.ID)
			all += v.Lo
		}
		owed := make([]api.Span, 3)
		for who := range owed {
			s, e := tally.Owed(b, who)
			if s != x.owed(who) || e != api.OK {
				t.Error("P7.8:", who, s, e, x.owed(who))
			}
			if s.Lo < s.Hi {
				wide++
			}
			owed[who] = s
		}
		for _, given := range x.cheapest {
			sum := 0
			for who, s := range owed {
				o := owedBy(b, given, who)
				if o < s.Lo || o > s.Hi {
					t.Error("P7.16:", who, o, s)
				}
				sum += o
			}
			for i, id := range given {
				if v, _ := tally.Value(b, b.Stocks[i].ID); id == 0 {
					sum += v.Lo
				}
			}
			if sum != all {
				t.Error("P7.16:", given, sum, all)
			}
		}
	})
	if wide < 100 {
		t.Error("too few spans of what is owed:", wide)
	}
}

// TestOwedByAll: if all foils are of one person, that one and the stocks that are alone in all cheapest ways are worth what all stocks are, at most; at least if none but these is alone in any.
func TestOwedByAll(t *testing.T) {
	exact := 0
	manyBundles(t, 82, 400, func(t *testing.T, c chance, b api.Bundle, x courses) {
		b = cloneBundle(b)
		for i := range b.Foils {
			b.Foils[i].Who = 5
		}
		all, alone := 0, 0
		lost, _, _ := tally.Lost(b)
		possible, _ := tally.Possible(b)
		for _, s := range b.Stocks {
			v, _ := tally.Value(b, s.ID)
			all += v.Lo
			if slices.Contains(lost, s.ID) {
				alone += v.Lo
			}
		}
		s, e := tally.Owed(b, 5)
		if s.Hi+alone > all || e != api.OK {
			t.Error("P7.16:", s, alone, all, e)
		}
		some := 0
		for _, p := range possible {
			if p.Foil == 0 {
				some++
			}
		}
		if some == len(lost) {
			exact++
			if s.Lo != s.Hi || s.Lo+alone != all {
				t.Error("P7.16:", s, alone, all)
			}
		}
	})
	if exact < 50 {
		t.Error("too few bundles in which it is sure what is alone:", exact)
	}
}

package tally_test

import (
	"math/rand/v2"
	"slices"
	"testing"

	"calx/api"
	"calx/tally"
)

const worn = api.WornNotch

func list(l ...int) []int { return l }

func stick(id, who int, notches ...int) api.Tally {
	return api.Tally{ID: id, Who: who, Notches: notches}
}

func sticks(l ...api.Tally) []api.Tally { return l }

func pairs(l ...int) []api.Pair {
	var all []api.Pair
	for i := 0; i < len(l); i += 2 {
		all = append(all, api.Pair{Stock: l[i], Foil: l[i+1]})
	}
	return all
}

// exampleText is the text of the chapter's example.
const exampleText = "costs 3 1 5 4\nworths 100 10 1\n" +
	"stock 1 7 2 3 4\nstock 2 7 2 3 9\nstock 3 7 0 0 5\n" +
	"foil 11 21 2 3 4\nfoil 12 22 2 - 9\nfoil 13 22 8 8 8\n"

// example is the bundle of the chapter's example.
func example() api.Bundle {
	return api.Bundle{
		Wrong: 3, Worn: 1, LostStock: 5, LostFoil: 4,
		Worths: list(100, 10, 1),
		Stocks: sticks(stick(1, 7, 2, 3, 4), stick(2, 7, 2, 3, 9), stick(3, 7, 0, 0, 5)),
		Foils:  sticks(stick(11, 21, 2, 3, 4), stick(12, 22, 2, worn, 9), stick(13, 22, 8, 8, 8)),
	}
}

// of is a bundle with these halves of sticks, and else as the example.
func of(stocks, foils []api.Tally) api.Bundle {
	b := example()
	b.Stocks, b.Foils = stocks, foils
	return b
}

func cloneTallies(l []api.Tally) []api.Tally {
	var all []api.Tally
	for _, x := range l {
		x.Notches = slices.Clone(x.Notches)
		all = append(all, x)
	}
	return all
}

func cloneBundle(b api.Bundle) api.Bundle {
	b.Worths, b.Stocks, b.Foils = slices.Clone(b.Worths), cloneTallies(b.Stocks), cloneTallies(b.Foils)
	return b
}

func equalTallies(a, b api.Tally) bool {
	return a.ID == b.ID && a.Who == b.Who && slices.Equal(a.Notches, b.Notches)
}

func equalBundles(a, b api.Bundle) bool {
	return a.Wrong == b.Wrong && a.Worn == b.Worn && a.LostStock == b.LostStock && a.LostFoil == b.LostFoil && slices.Equal(a.Worths, b.Worths) &&
		slices.EqualFunc(a.Stocks, b.Stocks, equalTallies) && slices.EqualFunc(a.Foils, b.Foils, equalTallies)
}

func isNoBundle(b api.Bundle) bool { return equalBundles(b, api.Bundle{}) }

// chance makes bundles at random, the same for the same seed.
type chance struct{ *rand.Rand }

func chanceOf(seed uint64) chance { return chance{rand.New(rand.NewPCG(seed, 7))} }

// from returns a number from lo to hi.
func (c chance) from(lo, hi int) int { return lo + c.IntN(hi-lo+1) }

// kind is of what size the parts of a bundle are.
type kind struct{ stocks, foils, places, notch, fee, worth, who int }

// bundle returns a bundle whose halves look much alike, so that there are many ways to put them together.
func (c chance) bundle(k kind) api.Bundle {
	b := api.Bundle{Wrong: c.from(0, k.fee), Worn: c.from(0, k.fee), LostStock: c.from(0, k.fee), LostFoil: c.from(0, k.fee)}
	for range k.places {
		b.Worths = append(b.Worths, c.from(0, k.worth))
	}
	ids := c.Perm(60)
	for i := range k.stocks + k.foils {
		x := api.Tally{ID: ids[i] + 1, Who: c.from(0, k.who)}
		for range k.places {
			x.Notches = append(x.Notches, c.from(worn, k.notch))
		}
		if i < k.stocks {
			b.Stocks = append(b.Stocks, x)
		} else {
			b.Foils = append(b.Foils, x)
		}
	}
	return b
}

// small returns a small bundle of any kind; often notches cost little, or nothing.
func (c chance) small() api.Bundle {
	b := c.bundle(kind{c.IntN(6), c.IntN(6), c.from(1, 4), c.from(0, 3), []int{1, 3, 6, 20}[c.IntN(4)], []int{1, 4, api.MaxNotchIn}[c.IntN(3)], c.from(0, 2)})
	switch c.IntN(4) {
	case 0:
		b.LostStock, b.LostFoil = 2*b.LostStock+2, 2*b.LostFoil+2
	case 1:
		b.Wrong, b.Worn = 2*b.Wrong+1, min(b.Worn, 2)
	}
	return b
}

// great returns a bundle with as many stocks, foils and places as can be.
func (c chance) great() api.Bundle {
	b := c.bundle(kind{api.MaxTallies, api.MaxTallies, api.MaxNotches, c.from(1, api.MaxNotch), []int{2, 5, api.MaxFee}[c.IntN(3)], api.MaxNotchIn, 2})
	if c.IntN(4) > 0 {
		b.LostStock, b.LostFoil = min(6*b.LostStock, api.MaxFee), min(6*b.LostFoil, api.MaxFee)
	}
	return b
}

// manyBundles calls a test with many small bundles, and with all their ways.
func manyBundles(t *testing.T, seed uint64, count int, test func(t *testing.T, c chance, b api.Bundle, x courses)) {
	t.Helper()
	c := chanceOf(seed)
	one, some, lost := 0, 0, 0
	for i := range count {
		b := c.small()
		if e := tally.Check(b); e != api.OK {
			t.Fatal("P7.1: a right bundle:", e, b)
		}
		x := coursesOf(b)
		switch {
		case len(x.cheapest) == 1:
			one++
		default:
			some++
		}
		if !slices.Contains(x.cheapest[0], 0) {
			lost++
		}
		test(t, c, b, x)
		if t.Failed() {
			t.Fatalf("bundle %d: %+v", i, b)
		}
	}
	if min(one, some, lost) < count/8 {
		t.Error("too few bundles of a sort:", one, some, lost)
	}
}

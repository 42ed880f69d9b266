package book_test

import (
	"math/big"
	"slices"

	"calx/api"
)

// digestOfNumbers returns the digest of numbers as what it comes to in the end: a sum of powers of the base.
func digestOfNumbers(l ...int) int {
	power := func(n int) *big.Int {
		return new(big.Int).Exp(big.NewInt(api.Base), big.NewInt(int64(n)), nil)
	}
	sum := power(len(l))
	for i, n := range l {
		part := new(big.Int).Add(big.NewInt(int64(n)), big.NewInt(1))
		sum.Add(sum, part.Mul(part, power(len(l)-1-i)))
	}
	return int(sum.Mod(sum, big.NewInt(api.Modulus)).Int64())
}

// leafOf returns the digest of an entry.
func leafOf(x api.Entry) int { return digestOfNumbers(0, x.Day, x.Kind, x.Who, x.Sum) }

// halfOf returns how long the first half of a tree is.
func halfOf(long int) int {
	half := 1
	for 2*half < long {
		half *= 2
	}
	return half
}

// rootOf returns the digest of entries.
func rootOf(l []api.Entry) int {
	switch len(l) {
	case 0:
		return digestOfNumbers(2)
	case 1:
		return leafOf(l[0])
	}
	half := halfOf(len(l))
	return digestOfNumbers(1, len(l), rootOf(l[:half]), rootOf(l[half:]))
}

// place is where a tree lies; the whole tree has no parent.
type place struct {
	from, long int
	parent     *place
}

// places returns the places of all trees of a book of so many entries, in order of where they begin, and the greater ones first.
func places(many int) []*place {
	var all []*place
	var add func(p *place)
	add = func(p *place) {
		all = append(all, p)
		if p.long > 1 {
			half := halfOf(p.long)
			add(&place{p.from, half, p})
			add(&place{p.from + half, p.long - half, p})
		}
	}
	add(&place{0, many, nil})
	return all
}

func (p *place) has(at int) bool { return p.from <= at && at < p.from+p.long }

// isApart reports whether a tree lies within the first entries, or behind them.
func (p *place) isApart(first int) bool { return p.from+p.long <= first || first <= p.from }

// standPlaces returns the places of which a proof that an entry stands has twigs.
func standPlaces(many, at int) []*place {
	l := slices.DeleteFunc(places(many), func(p *place) bool {
		return p.parent == nil || p.has(at) || !p.parent.has(at)
	})
	slices.SortFunc(l, func(p, q *place) int { return p.parent.long - q.parent.long })
	return l
}

// grownPlaces returns the places of which a proof that a book went on has twigs.
func grownPlaces(many, first int) []*place {
	return slices.DeleteFunc(places(many), func(p *place) bool {
		return !p.isApart(first) || p.parent != nil && p.parent.isApart(first)
	})
}

// twigsAt returns the twigs of a book at places.
func twigsAt(l []api.Entry, places []*place) []api.Twig {
	var p []api.Twig
	for _, x := range places {
		p = append(p, twig(x.from, x.long, rootOf(l[x.from:x.from+x.long])))
	}
	return p
}

// areAt reports whether twigs are at places.
func areAt(p []api.Twig, places []*place) bool {
	return slices.EqualFunc(p, places, func(x api.Twig, y *place) bool { return x.From == y.from && x.Long == y.long })
}

// ladder returns what is digested from an entry up to the whole tree, if the twigs are at their places.
func ladder(x api.Entry, at int, p []api.Twig) [][]int {
	l := [][]int{{0, x.Day, x.Kind, x.Who, x.Sum}}
	from, long := at, 1
	for _, y := range p {
		d := digestOfNumbers(l[len(l)-1]...)
		long += y.Long
		if y.From < from {
			from = y.From
			l = append(l, list(1, long, y.Digest, d))
		} else {
			l = append(l, list(1, long, d, y.Digest))
		}
	}
	return l
}

// isStanding reports whether twigs prove that an entry stands.
func isStanding(root, many, at int, x api.Entry, p []api.Twig) bool {
	if !areAt(p, standPlaces(many, at)) {
		return false
	}
	l := ladder(x, at, p)
	return digestOfNumbers(l[len(l)-1]...) == root
}

// isGrown reports whether twigs prove that a book went on.
func isGrown(before, first, root, many int, p []api.Twig) bool {
	if !areAt(p, grownPlaces(many, first)) {
		return false
	}
	within := slices.Clone(p)
	within = slices.DeleteFunc(within, func(x api.Twig) bool { return x.From+x.Long > first || first == 0 })
	was := digestOfNumbers(2)
	if len(within) > 0 {
		was = together(within)
	}
	return together(p) == root && was == before
}

// together returns the digest of the whole tree that some twigs, which follow each other, are parts of.
func together(p []api.Twig) int {
	if len(p) == 1 {
		return p[0].Digest
	}
	long := 0
	for _, x := range p {
		long += x.Long
	}
	from, half := p[0].From, halfOf(long)
	split := slices.IndexFunc(p, func(x api.Twig) bool { return x.From == from+half })
	return digestOfNumbers(1, long, together(p[:split]), together(p[split:]))
}

// gapOf returns the first gap on the way up.
func gapOf(l []api.Entry, at int, x api.Entry, p []api.Twig) (api.Gap, bool) {
	told, own := ladder(x, at, p), ladder(l[at], at, twigsAt(l, standPlaces(len(l), at)))
	for i := range told {
		if !slices.Equal(told[i], own[i]) && digestOfNumbers(told[i]...) == digestOfNumbers(own[i]...) {
			return api.Gap{A: told[i], B: own[i]}, true
		}
	}
	return api.Gap{}, false
}

// completed returns what number of a list has to stand at an index, so that its digest is one that is wanted.
func completed(l []int, at, want int) int {
	m := big.NewInt(api.Modulus)
	without := slices.Clone(l)
	without[at] = 0
	lacks := big.NewInt(int64(want - digestOfNumbers(without...)))
	weight := new(big.Int).Exp(big.NewInt(api.Base), big.NewInt(int64(len(l)-1-at)), m)
	lacks.Mul(lacks, weight.ModInverse(weight, m))
	return int(lacks.Mod(lacks, m).Int64())
}

// forged returns twigs that prove an entry that does not stand in a book, or that tell another digest: those from a height on are right, the one below them makes good what the further ones told.
func forged(l []api.Entry, at int, x api.Entry, p []api.Twig, height int) []api.Twig {
	p = slices.Clone(p)
	right := twigsAt(l, standPlaces(len(l), at))
	copy(p[height+1:], right[height+1:])
	own := ladder(l[at], at, right)[height+1]
	numbers := ladder(x, at, p)[height+1]
	place := 3
	if p[height].From < at {
		place = 2
	}
	p[height].Digest = completed(numbers, place, digestOfNumbers(own...))
	return p
}

// same returns another entry with the same digest, if there is one close by.
func same(x api.Entry) (api.Entry, bool) {
	y := x
	switch {
	case x.Sum >= api.Base && x.Who < api.MaxWho:
		y.Who, y.Sum = x.Who+1, x.Sum-api.Base
	case x.Sum+api.Base <= api.MaxSum && x.Who > 0:
		y.Who, y.Sum = x.Who-1, x.Sum+api.Base
	case x.Who >= api.Base && x.Kind < 9:
		y.Kind, y.Who = x.Kind+1, x.Who-api.Base
	}
	return y, y != x
}

package sample

import "calx/api"

// Pass returns the chance that a plan accepts a batch.
func Pass(barrows, bad int, p api.Trial) (api.Ratio, api.Errno) {
	if !isBad(barrows, bad, api.MaxBarrows) || !isTrial(p, barrows) {
		return api.Ratio{}, api.ErrArg
	}
	return passing(barrows, bad)(p).ratio(), api.OK
}

// PassTwice returns the chance that a plan with two samples accepts a batch.
func PassTwice(barrows, bad int, d api.Double) (api.Ratio, api.Errno) {
	if !isBad(barrows, bad, api.MaxTwice) || !isDouble(d, barrows) {
		return api.Ratio{}, api.ErrArg
	}
	first, left := justly(barrows, bad, d.First), barrows-d.First
	// A second sample counts even if the first one decides, so that all pairs of samples are as likely.
	ways := total(numbers(found(barrows, bad, d.First)), func(n int) int {
		return first(n) * upTo(left, bad-n, d.Second, further(d, n))
	})
	return fraction{ways, choose(barrows, d.First) * choose(left, d.Second)}.ratio(), api.OK
}

// Smallest returns the plan with the least sample that tells a good batch from a bad one.
func Smallest(barrows, good, bad int, accept, refuse api.Ratio) (api.Trial, api.Errno) {
	if !isBad(barrows, bad, api.MaxBarrows) || !isWithin(good, 0, bad-1) || checkLevels(accept, refuse) != api.OK {
		return api.Trial{}, api.ErrArg
	}
	ofGood, ofBad := passing(barrows, good), passing(barrows, bad)
	plan, e, least := api.Trial{}, api.ErrNone, 0
search:
	for sample := range barrows + 1 {
		// The same Accept accepts no more often with a greater sample: what was too little for the good batch stays so.
		for most := least; most <= sample; most++ {
			p := api.Trial{Sample: sample, Accept: most}
			if !ofGood(p).atLeast(accept) {
				continue
			}
			if ofBad(p).atMost(refuse) {
				plan, e = p, api.OK
				break search
			}
			// A greater Accept accepts the bad batch no less often.
			least = most
			continue search
		}
	}
	return plan, e
}

func isTrial(p api.Trial, barrows int) bool {
	return isWithin(p.Sample, 0, barrows) && isWithin(p.Accept, 0, p.Sample)
}

func isDouble(d api.Double, barrows int) bool {
	return isWithin(d.First, 0, barrows) && isWithin(d.Second, 0, barrows-d.First) &&
		isWithin(d.Refuse, 1, d.First+1) && isWithin(d.Accept, 0, d.Refuse-1) &&
		isWithin(d.Together, d.Accept, d.First+d.Second)
}

// passing returns what tells the chance that any plan accepts a batch.
func passing(barrows, bad int) func(p api.Trial) fraction {
	return func(p api.Trial) fraction {
		return fewSeen(barrows, p.Sample, p.Accept)(bad)
	}
}

// further returns how many bad barrows there may be in a second sample if there are n in the first one; less than 0, if not even none.
func further(d api.Double, n int) int {
	if n <= d.Accept {
		return d.Second
	}
	if n >= d.Refuse {
		return -1
	}
	return d.Together - n
}

package sample

import "calx/api"

// AtMost returns in how many samples there are at most some bad barrows.
func AtMost(barrows, bad, taken, most int) (int, api.Errno) {
	if !isBad(barrows, bad, api.MaxBarrows) || !isWithin(taken, 0, barrows) || most < 0 {
		return 0, api.ErrArg
	}
	return upTo(barrows, bad, taken, most), api.OK
}

// Upper returns the greatest number of bad barrows for which so few would be seen with a chance.
func Upper(barrows, taken, seen int, level api.Ratio) (int, api.Errno) {
	if !isSeen(barrows, taken, seen) || !isLevel(level) {
		return 0, api.ErrArg
	}
	few := fewSeen(barrows, taken, seen)
	bad := barrows
	// It ends at 0: of no bad barrows no more than seen are found.
	for !few(bad).atLeast(level) {
		bad--
	}
	return bad, api.OK
}

// Lower returns the least number of bad barrows for which so many would be seen with a chance.
func Lower(barrows, taken, seen int, level api.Ratio) (int, api.Errno) {
	if !isSeen(barrows, taken, seen) || !isLevel(level) {
		return 0, api.ErrArg
	}
	many := manySeen(barrows, taken, seen)
	bad := 0
	// It ends where all are bad: then as many are found as are taken.
	for !many(bad).atLeast(level) {
		bad++
	}
	return bad, api.OK
}

// isBad reports whether there are a number of barrows, at most so many, and a number of bad ones of them.
func isBad(barrows, bad, most int) bool {
	return isWithin(barrows, 1, most) && isWithin(bad, 0, barrows)
}

// isSeen reports whether so many can be seen of so many that are taken.
func isSeen(barrows, taken, seen int) bool {
	return isWithin(barrows, 1, api.MaxBarrows) && isWithin(taken, 0, barrows) && isWithin(seen, 0, taken)
}

// fewSeen returns what tells the chance, by any number of bad barrows, that at most so many of those taken are bad.
func fewSeen(barrows, taken, seen int) func(bad int) fraction {
	return func(bad int) fraction {
		return fraction{upTo(barrows, bad, taken, seen), choose(barrows, taken)}
	}
}

// manySeen returns what tells the chance, by any number of bad barrows, that at least so many of those taken are bad.
func manySeen(barrows, taken, seen int) func(bad int) fraction {
	return func(bad int) fraction {
		all := choose(barrows, taken)
		return fraction{all - upTo(barrows, bad, taken, seen-1), all}
	}
}

// upTo returns in how many samples at most so many barrows are bad; 0, if that is less than 0.
func upTo(barrows, bad, taken, most int) int {
	counts := found(barrows, bad, taken)
	counts.Hi = min(counts.Hi, most)
	return total(numbers(counts), justly(barrows, bad, taken))
}

// found returns how many bad barrows there can be among those taken.
func found(barrows, bad, taken int) api.Span {
	return api.Span{Lo: max(0, taken-(barrows-bad)), Hi: min(taken, bad)}
}

// justly returns what tells in how many samples just so many barrows are bad, for any number that can be found.
func justly(barrows, bad, taken int) func(n int) int {
	return func(n int) int { return choose(bad, n) * choose(barrows-bad, taken-n) }
}

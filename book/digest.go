package book

import "calx/api"

// What is digested begins with one of these, so that an entry is no halving, and neither is nothing.
const (
	entrySign = 0
	treeSign  = 1
	emptySign = 2
)

// maxNumbers is how many numbers are digested at most.
const maxNumbers = 8

// Digest returns the digest of numbers.
func Digest(l []int) (int, api.Errno) {
	if len(l) > maxNumbers {
		return 0, api.ErrLimit
	}
	if !all(l, isDigest) {
		return 0, api.ErrArg
	}
	return digestOf(l...), api.OK
}

// digestOf returns the digest of right numbers. No step of it is too great for an int: Modulus times Base is less than 2^51.
func digestOf(numbers ...int) int {
	return fold(numbers, 1, func(d, n int) int { return (d*api.Base + n + 1) % api.Modulus })
}

// Leaf returns the digest of an entry.
func Leaf(x api.Entry) (int, api.Errno) {
	if !isEntry(x) {
		return 0, api.ErrArg
	}
	n := numbersOf(x)
	return digestOf(n[:]...), api.OK
}

// numbersOf returns the numbers of which the digest of an entry is made.
func numbersOf(x api.Entry) [5]int { return [5]int{entrySign, x.Day, x.Kind, x.Who, x.Sum} }

// Node returns the digest of two digests, for so many entries.
func Node(long, left, right int) (int, api.Errno) {
	if !isWithin(long, 2, api.MaxEntries) || !isDigest(left) || !isDigest(right) {
		return 0, api.ErrArg
	}
	return digestOf(treeSign, long, left, right), api.OK
}

// fold returns what comes of a number by a step with each element of a list.
func fold[T any](l []T, first int, step func(int, T) int) int {
	n := first
	for _, x := range l {
		n = step(n, x)
	}
	return n
}

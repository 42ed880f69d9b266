package book

import "calx/api"

// Fork returns the first entry at which two books part, with proofs.
func Fork(a, b []api.Entry) (int, []api.Twig, []api.Twig, bool, api.Errno) {
	if e := checkBooks(a, b); e != api.OK {
		return 0, nil, nil, false, e
	}
	both := min(len(a), len(b))
	for at := range both {
		if a[at] != b[at] {
			return at, standing(a, at), standing(b, at), true, api.OK
		}
	}
	return both, nil, nil, false, api.OK
}

// Compare returns where two books of the same length part, and how many digests were looked at.
func Compare(a, b []api.Entry) (int, int, bool, api.Errno) {
	if e := checkBooks(a, b); e != api.OK {
		return 0, 0, false, e
	}
	if len(a) != len(b) || len(a) == 0 {
		return 0, 0, false, api.ErrArg
	}
	one, other := sourceOf(a), sourceOf(b)
	looks := 0
	differ := func(t tree) bool {
		looks++
		return one.digest(t) != other.digest(t)
	}
	whole := tree{0, len(a)}
	if !differ(whole) {
		return len(a), looks, false, api.OK
	}
	at := search(whole, differ)
	return at, looks, true, api.OK
}

// search returns the index of the entry to which halving leads if it goes on with a first half that differs, and else with the second one, which is not looked at.
func search(t tree, differ func(tree) bool) int {
search:
	for {
		for half := range t.halves() {
			if half.end() == t.end() || differ(half) {
				t = half
				continue search
			}
		}
		// Only an entry has no halves.
		break search
	}
	return t.from
}

// Package fire is layer 2: heat over the feet of a shaft and the hours of a season, from looks at the fire (shared/doc/02-fire.md).
package fire

import (
	"slices"

	"calx/api"
)

// Check returns the first error of a fire.
func Check(f api.Fire) api.Errno {
	for _, slope := range slopesOf(f) {
		if slope < 0 || slope > api.MaxSlope {
			return api.ErrArg
		}
	}
	if len(f.Looks) > api.MaxLooks {
		return api.ErrLimit
	}
	seen := map[int]bool{}
	for _, x := range f.Looks {
		if !isLook(x) {
			return api.ErrArg
		}
		if seen[x.ID] {
			return api.ErrTwice
		}
		seen[x.ID] = true
	}
	return api.OK
}

// checkSpots returns ErrArg unless all of some spots are right.
func checkSpots(spots ...api.Spot) api.Errno {
	if slices.ContainsFunc(spots, isNoSpot) {
		return api.ErrArg
	}
	return api.OK
}

// checkList returns the first error of a list of spots.
func checkList(l []api.Spot) api.Errno {
	if len(l) > api.MaxSpots {
		return api.ErrLimit
	}
	return checkSpots(l...)
}

// checkHeats returns ErrArg unless all of some numbers are heats.
func checkHeats(heats ...int) api.Errno {
	if slices.ContainsFunc(heats, isNoHeat) {
		return api.ErrArg
	}
	return api.OK
}

func isLook(x api.Look) bool {
	return 1 <= x.ID && x.ID <= api.MaxID && !isNoSpot(x.At) && !isNoHeat(x.Heat.Lo) && !isNoHeat(x.Heat.Hi) && x.Heat.Lo <= x.Heat.Hi
}

func isNoSpot(at api.Spot) bool {
	return at.Foot < 0 || at.Foot > api.MaxFeet || at.Hour < 0 || at.Hour > api.MaxHour
}

func isNoHeat(heat int) bool { return heat < 0 || heat > api.MaxHeat }

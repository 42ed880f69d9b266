package cart

import (
	"iter"

	"calx/api"
)

// CheckYard returns the first error of a yard.
func CheckYard(y api.Yard) api.Errno {
	if len(y.Bays) > api.MaxBays || len(y.Orders) > api.MaxOrders {
		return api.ErrLimit
	}
	if e := checkEach(y.Bays, isBay, idOfBay); e != api.OK {
		return e
	}
	return checkEach(y.Orders, isOrder, idOfOrder)
}

// checkEach returns the first error of things that have IDs of their own.
func checkEach[T any](l []T, isRight func(T) bool, id func(T) int) api.Errno {
	seen := map[int]bool{}
	for _, x := range l {
		if !isRight(x) {
			return api.ErrArg
		}
		if seen[id(x)] {
			return api.ErrTwice
		}
		seen[id(x)] = true
	}
	return api.OK
}

func isBay(b api.Bay) bool { return isID(b.ID) && isHour(b.Hour) && isGrade(b.Grade) }

func isOrder(x api.Order) bool {
	return isID(x.ID) && isHours(x.Hours) && isGrade(x.Grade) && isWithin(x.Worth, 1, api.MaxWorth)
}

func isGrade(grade int) bool { return isWithin(grade, 0, api.MaxGrade) }

func idOfBay(b api.Bay) int { return b.ID }

func idOfOrder(x api.Order) int { return x.ID }

// byID returns the indices of things by their IDs.
func byID[T any](l []T, id func(T) int) map[int]int {
	indices := map[int]int{}
	for i, x := range l {
		indices[id(x)] = i
	}
	return indices
}

// Suits reports whether a bay is one for an order.
func Suits(y api.Yard, order, bay int) (bool, api.Errno) {
	if e := CheckYard(y); e != api.OK {
		return false, e
	}
	i, isOrder := byID(y.Orders, idOfOrder)[order]
	k, isBay := byID(y.Bays, idOfBay)[bay]
	if !isOrder || !isBay {
		return false, api.ErrNone
	}
	return suits(y.Bays[k], y.Orders[i]), api.OK
}

func suits(b api.Bay, x api.Order) bool {
	return isWithin(b.Hour, x.Hours.Lo, x.Hours.Hi) && b.Grade >= x.Grade
}

// suiting yields the indices of the bays that suit an order.
func suiting(y api.Yard, x api.Order) iter.Seq[int] {
	return func(yield func(int) bool) {
		for i, b := range y.Bays {
			if suits(b, x) && !yield(i) {
				return
			}
		}
	}
}

package axiom

import (
	"slices"

	"headstock/api"
)

// Value is what a load tells in an order; false: it is none.
func Value(l []api.Event, order []int, i int) (int, bool) {
	if !Right(l) || !isOrder(l, order) || !isPlace(l, i) || l[i].Kind != api.EventLoad {
		return 0, false
	}
	return value(l, order, i), true
}

// value is Value of a load in an order.
func value(l []api.Event, order []int, i int) int {
	n := 0
	behind := false
	for _, k := range order {
		behind = behind || k == i
		// A hart's own store is seen by it at once, even if it comes later in the order.
		if isStoreTo(l[k], l[i].At) && (!behind || isAhead(l, k, i)) {
			n = l[k].N
		}
	}
	return n
}

// isOrder tells whether it is the places of all accesses, each once.
func isOrder(l []api.Event, order []int) bool {
	for place, i := range order {
		if !isPlace(l, i) || slices.Contains(order[:place], i) {
			return false
		}
	}
	for i, e := range l {
		if isAccess(e) && !slices.Contains(order, i) {
			return false
		}
	}
	return true
}

// Holds tells whether an order is one that the axioms let be.
func Holds(l []api.Event, order []int) bool {
	if !Right(l) || !isOrder(l, order) {
		return false
	}
	for place, k := range order {
		isLate := func(i int) bool { return keeps(l, i, k) }
		if slices.ContainsFunc(order[place:], isLate) {
			return false
		}
		if l[k].Kind == api.EventLoad && l[k].N != value(l, order, k) {
			return false
		}
	}
	return true
}

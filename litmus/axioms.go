package litmus

import (
	"slices"

	"headstock/api"
	"headstock/axiom"
)

// Axioms are all outcomes that the axioms let be.
func Axioms(l []api.Event) [][]int {
	if !Right(l) {
		return nil
	}
	isNone := func(outcome []int) bool { return !axiom.Allowed(history(l, outcome)) }
	return slices.DeleteFunc(guesses(l), isNone)
}

// history is a program with what its loads told.
func history(l []api.Event, outcome []int) []api.Event {
	l = slices.Clone(l)
	told := 0
	for i, e := range l {
		if e.Kind == api.EventLoad {
			l[i].N = outcome[told]
			told++
		}
	}
	return l
}

// guesses are, in order, all outcomes whose numbers may be told at all.
func guesses(l []api.Event) [][]int {
	all := [][]int{{}}
	for _, e := range l {
		if e.Kind == api.EventLoad {
			all = longer(all, numbers(l, e.At))
		}
	}
	return all
}

// longer are the same outcomes with one number more, each with each of these.
func longer(all [][]int, numbers []int) [][]int {
	var out [][]int
	for _, outcome := range all {
		for _, n := range numbers {
			out = append(out, append(slices.Clone(outcome), n))
		}
	}
	return out
}

// numbers are what a load of that word may tell: what it is at first, and what is stored there.
func numbers(l []api.Event, at int) []int {
	all := []int{0}
	for _, e := range l {
		if e.Kind == api.EventStore && e.At == at {
			all = append(all, e.N)
		}
	}
	slices.Sort(all)
	return slices.Compact(all)
}

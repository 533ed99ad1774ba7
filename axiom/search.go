package axiom

import "headstock/api"

// state is how far an order has come: which accesses it has (a bit each), and what its stores came to in each word.
// Whether it leads on to an order that holds hangs on nothing else.
type state struct {
	has   int
	words [words]int
}

// search looks for an order of right events that holds.
type search struct {
	l       []api.Event
	nowhere map[state]struct{}
}

// Allowed tells whether there is an order that the axioms let be.
func Allowed(l []api.Event) bool {
	if !Right(l) {
		return false
	}
	s := search{l: l, nowhere: map[state]struct{}{}}
	return s.leads(state{})
}

// leads tells whether some order that begins like this holds.
func (s search) leads(at state) bool {
	if _, found := s.nowhere[at]; found {
		return false
	}
	isWhole := true
	for i, e := range s.l {
		if !isAccess(e) || at.is(i) {
			continue
		}
		isWhole = false
		if s.mayBeNext(at, i) && s.leads(at.with(i, e)) {
			return true
		}
	}
	if isWhole {
		return true
	}
	s.nowhere[at] = struct{}{}
	return false
}

// mayBeNext tells whether all that must be ahead of an access is, and whether it tells what it must, if it is a load.
func (s search) mayBeNext(at state, i int) bool {
	for k := range i {
		if isAccess(s.l[k]) && !at.is(k) && keeps(s.l, k, i) {
			return false
		}
	}
	return s.l[i].Kind != api.EventLoad || s.l[i].N == s.loaded(at, i)
}

// loaded is what a load tells, if it is next.
func (s search) loaded(at state, i int) int {
	n := at.words[s.l[i].At]
	for k := range i {
		// What the hart itself stored and is still to come is behind all that is in the order; one to the same word keeps behind another.
		if isAhead(s.l, k, i) && isStoreTo(s.l[k], s.l[i].At) && !at.is(k) {
			n = s.l[k].N
		}
	}
	return n
}

func (at state) is(i int) bool { return at.has>>i&1 == 1 }

// with is the state behind one access more.
func (at state) with(i int, e api.Event) state {
	at.has |= 1 << i
	if e.Kind == api.EventStore {
		at.words[e.At] = e.N
	}
	return at
}

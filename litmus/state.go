package litmus

import (
	"iter"

	"headstock/api"
	"headstock/store"
)

// words are so many as a program may touch.
const words = 4

// state is how far a program has come: which events are behind (a bit each), what its loads told, by their places, and the memory.
type state struct {
	done   int
	told   [api.MaxLitmus]int
	memory api.Memory
}

// mark is all of a state in a form that can be a map's key. No word is ever reserved, so that it need not say which is.
type mark struct {
	done    int
	told    [api.MaxLitmus]int
	words   [words]int
	pending [api.MaxHarts]entries
}

// entries are a hart's pending stores. Their number says where they end: a store of 0 to word 0 is like none.
type entries struct {
	count int
	all   [api.MaxLitmus]api.Entry
}

func start() state {
	m, _ := store.New(api.MaxHarts, words)
	return state{memory: m}
}

func (s state) mark() mark {
	m := mark{done: s.done, told: s.told}
	copy(m.words[:], s.memory.Words)
	for hart, pending := range s.memory.Pending {
		m.pending[hart].count = len(pending)
		copy(m.pending[hart].all[:], pending)
	}
	return m
}

// isEnd tells whether no event is left.
func (s state) isEnd(l []api.Event) bool { return s.done == 1<<len(l)-1 }

// outcome is what the loads told.
func (s state) outcome(l []api.Event) []int {
	var told []int
	for i, e := range l {
		if e.Kind == api.EventLoad {
			told = append(told, s.told[i])
		}
	}
	return told
}

// nexts goes through the picks that may be, each with the state behind it.
func (s state) nexts(l []api.Event) iter.Seq2[api.Pick, state] {
	return func(yield func(api.Pick, state) bool) {
		for _, p := range s.picks() {
			if next, ok := s.after(l, p); ok && !yield(p, next) {
				return
			}
		}
	}
}

// picks are those that are asked: one without Drain of each hart, and one with it of each pending store.
func (s state) picks() []api.Pick {
	var all []api.Pick
	for hart, pending := range s.memory.Pending {
		all = append(all, api.Pick{Hart: hart})
		for which := range pending {
			all = append(all, api.Pick{Hart: hart, Drain: true, Which: which})
		}
	}
	return all
}

// after is the state behind a pick; false: it may not be.
func (s state) after(l []api.Event, p api.Pick) (state, bool) {
	if p.Drain {
		m, err := store.Drain(s.memory, p.Hart, p.Which)
		s.memory = m
		return s, err == api.OK
	}
	for i, e := range l {
		if e.Hart == p.Hart && s.done>>i&1 == 0 {
			next, ok := s.behind(i, e)
			return next, ok && p.Which == 0
		}
	}
	return state{}, false
}

// behind is the state behind an event; false: it may not be.
func (s state) behind(i int, e api.Event) (state, bool) {
	s.done |= 1 << i
	err := api.OK
	switch e.Kind {
	case api.EventLoad:
		s.told[i], err = store.Load(s.memory, e.Hart, e.At)
	case api.EventStore:
		s.memory, err = store.Store(s.memory, e.Hart, e.At, e.N)
	case api.EventFence:
		return s, len(s.memory.Pending[e.Hart]) == 0
	}
	return s, err == api.OK
}

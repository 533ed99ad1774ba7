package litmus_test

import (
	"math"
	"math/rand"
	"slices"
	"strconv"
	"strings"

	"headstock/api"
	"headstock/axiom"
)

// What the chapter's words say, written out here by themselves: a memory is told by which events there were, and which stores came there, one behind the other; all scripts are gone through, and all numbers that a load may tell.

func load(hart, at int) api.Event { return api.Event{Hart: hart, Kind: api.EventLoad, At: at} }
func store(hart, at, n int) api.Event {
	return api.Event{Hart: hart, Kind: api.EventStore, At: at, N: n}
}
func fence(hart int) api.Event { return api.Event{Hart: hart, Kind: api.EventFence} }

func next(hart int) api.Pick         { return api.Pick{Hart: hart} }
func drain(hart, which int) api.Pick { return api.Pick{Hart: hart, Drain: true, Which: which} }

// wantRight goes through what may be wrong, field by field.
func wantRight(l []api.Event) bool {
	wrong := 0
	for _, e := range l {
		if e.Hart < 0 || e.Hart > 3 || e.At < 0 || e.At > 3 || e.Kind < 1 || e.Kind > 3 {
			wrong++
		}
		if e.Kind == 1 && e.N != 0 || e.Kind == 3 && (e.At != 0 || e.N != 0) || e.N > 1<<31-1 || e.N < -1<<31 {
			wrong++
		}
	}
	return wrong == 0 && len(l) < 7
}

// run is how far a program has come: the places of the events that are behind, and those of the stores that are in memory, as they came; and what loads told, by their places.
type run struct {
	l     []api.Event
	past  []int
	there []int
	told  map[int]int
}

func begin(l []api.Event) run { return run{l: l, told: map[int]int{}} }

// pending are the places of a hart's stores that are not in memory.
func (r run) pending(hart int) []int {
	var places []int
	for _, i := range r.past {
		if r.l[i].Hart == hart && r.l[i].Kind == api.EventStore && !slices.Contains(r.there, i) {
			places = append(places, i)
		}
	}
	return places
}

// last is the number of the last one of those stores that is to this word; 0, if there is none.
func (r run) last(stores []int, at int) int {
	n := 0
	for _, i := range stores {
		if r.l[i].At == at {
			n = r.l[i].N
		}
	}
	return n
}

// left are the places of a hart's events that are still to come.
func (r run) left(hart int) []int {
	var places []int
	for i, e := range r.l {
		if e.Hart == hart && !slices.Contains(r.past, i) {
			places = append(places, i)
		}
	}
	return places
}

func (r run) isDone() bool { return len(r.past) == len(r.l) }

// picked is the run with one pick more, which another run's lists are not changed by.
func (r run) picked(p api.Pick) (run, bool) {
	if p.Drain {
		return r.drained(r.pending(p.Hart), p.Which)
	}
	left := r.left(p.Hart)
	if len(left) == 0 || p.Which != 0 {
		return run{}, false
	}
	i := left[0]
	pending := r.pending(p.Hart)
	told := map[int]int{}
	for k, n := range r.told {
		told[k] = n
	}
	switch e := r.l[i]; e.Kind {
	case api.EventFence:
		if len(pending) > 0 {
			return run{}, false
		}
	case api.EventLoad:
		// What is pending is behind what is there.
		told[i] = r.last(slices.Concat(r.there, pending), e.At)
	}
	return run{r.l, append(slices.Clone(r.past), i), r.there, told}, true
}

// drained is the run with that one of a hart's pending stores in memory.
func (r run) drained(pending []int, which int) (run, bool) {
	if which < 0 || which >= len(pending) {
		return run{}, false
	}
	for _, i := range pending[:which] {
		if r.l[i].At == r.l[pending[which]].At {
			return run{}, false
		}
	}
	return run{r.l, r.past, append(slices.Clone(r.there), pending[which]), r.told}, true
}

// outcome is what the loads told, in the order of the list.
func (r run) outcome() []int {
	told := []int{}
	for i, e := range r.l {
		if e.Kind == api.EventLoad {
			told = append(told, r.told[i])
		}
	}
	return told
}

func wantPlay(l []api.Event, script []api.Pick) ([]int, bool) {
	if !wantRight(l) {
		return nil, false
	}
	r, ok := begin(l), true
	for _, p := range script {
		if r, ok = r.picked(p); !ok {
			return nil, false
		}
	}
	if !r.isDone() {
		return nil, false
	}
	return r.outcome(), true
}

// scripts goes through all scripts by which a right program ends, but for what is drained behind its last event; nothing that was come to is kept.
func scripts(l []api.Event) func(func([]api.Pick, []int) bool) {
	return func(yield func([]api.Pick, []int) bool) {
		var from func(r run, script []api.Pick) bool
		from = func(r run, script []api.Pick) bool {
			if r.isDone() {
				return yield(script, r.outcome())
			}
			for hart := range 4 {
				picks := []api.Pick{next(hart)}
				for which := range r.pending(hart) {
					picks = append(picks, drain(hart, which))
				}
				for _, p := range picks {
					if to, ok := r.picked(p); ok && !from(to, append(slices.Clone(script), p)) {
						return false
					}
				}
			}
			return true
		}
		from(begin(l), nil)
	}
}

func wantPlays(l []api.Event) [][]int {
	var all [][]int
	if wantRight(l) {
		for _, outcome := range scripts(l) {
			all = put(all, outcome)
		}
	}
	return all
}

// put puts an outcome where it belongs, if it isn't there.
func put(all [][]int, outcome []int) [][]int {
	for i, other := range all {
		if slices.Equal(other, outcome) {
			return all
		}
		if isAhead(outcome, other) {
			return slices.Insert(all, i, outcome)
		}
	}
	return append(all, outcome)
}

// isAhead tells whether an outcome is told ahead of another one, of as many numbers, that is unlike.
func isAhead(a, b []int) bool {
	for i := range a {
		if a[i] != b[i] {
			return a[i] < b[i]
		}
	}
	return false
}

// wantAxioms tries each of the program's numbers, and some more, as each load's.
func wantAxioms(l []api.Event) [][]int {
	if !wantRight(l) {
		return nil
	}
	some := []int{0, 1}
	for _, e := range l {
		if !slices.Contains(some, e.N) {
			some = append(some, e.N)
		}
	}
	var all [][]int
	for outcome := range rows(some, loads(l)) {
		if axiom.Allowed(asTold(l, outcome)) {
			all = put(all, outcome)
		}
	}
	return all
}

// loads is how many loads there are.
func loads(l []api.Event) int {
	n := 0
	for _, e := range l {
		if e.Kind == api.EventLoad {
			n++
		}
	}
	return n
}

// asTold is a program with an outcome as its loads' numbers.
func asTold(l []api.Event, outcome []int) []api.Event {
	var out []api.Event
	for _, e := range l {
		if e.Kind == api.EventLoad {
			e.N, outcome = outcome[0], outcome[1:]
		}
		out = append(out, e)
	}
	return out
}

// rows goes through all lists of n of those.
func rows[T any](of []T, n int) func(func([]T) bool) {
	return func(yield func([]T) bool) {
		l := make([]T, n)
		var from func(i int) bool
		from = func(i int) bool {
			if i == n {
				return yield(slices.Clone(l))
			}
			for _, x := range of {
				l[i] = x
				if !from(i + 1) {
					return false
				}
			}
			return true
		}
		from(0)
	}
}

// few are what two harts may do to two words.
var few = []api.Event{
	load(0, 0), load(0, 1), store(0, 0, 1), store(0, 1, 1), fence(0),
	load(1, 0), load(1, 1), store(1, 0, 2), store(1, 1, 1), fence(1),
}

// text is a program, or its outcomes.
func text(l []api.Event) string {
	var s []string
	for _, e := range l {
		switch hart, at := strconv.Itoa(e.Hart), strconv.Itoa(e.At); e.Kind {
		case api.EventLoad:
			s = append(s, hart+" loads "+at)
		case api.EventStore:
			s = append(s, hart+" stores "+strconv.Itoa(e.N)+" to "+at)
		default:
			s = append(s, hart+" fence")
		}
	}
	return strings.Join(s, ", ")
}

// areSame tells whether outcomes are the same, in the same order.
func areSame(a, b [][]int) bool { return slices.EqualFunc(a, b, slices.Equal) }

// someNumbers are such as may be, and noNumbers such as may not.
var someNumbers = []int{0, 1, -1, 2, 255, 256, 1 << 30, 1<<31 - 1, -1 << 31, 1 - 1<<31}

var noNumbers = []int{1 << 31, 1<<31 + 1, -1<<31 - 1, 1<<32 - 1, 1 << 32, 1<<32 + 1, -1 << 32, 5<<40 + 7, math.MaxInt, math.MinInt}

// noPlaces are no harts, no words, and no places of stores.
var noPlaces = []int{-1, -4, 4, 5, 7, 8, 255, 256, 1 << 31, 1 << 32, 1<<32 + 1, -1 << 32, math.MaxInt, math.MinInt}

// chance is programs and scripts by chance.
type chance struct{ *rand.Rand }

// program is so many events of few harts and words: of more they seldom have to do with one another.
func (c *chance) program(n int) []api.Event {
	harts, words := 2, 1+c.Intn(2)
	if c.Intn(3) == 0 {
		harts, words = 1+c.Intn(4), 1+c.Intn(4)
	}
	var l []api.Event
	for range n {
		hart, at := c.Intn(harts), c.Intn(words)
		switch c.Intn(8) {
		case 0:
			l = append(l, fence(hart))
		case 1, 2, 3:
			l = append(l, store(hart, at, c.Intn(4)-1))
		default:
			l = append(l, load(hart, at))
		}
	}
	return l
}

// script is one by which a right program ends; stores may be drained behind its last event, too.
func (c *chance) script(l []api.Event) []api.Pick {
	r := begin(l)
	var script []api.Pick
	for !r.isDone() || c.Intn(3) > 0 {
		p := c.pick()
		if to, ok := r.picked(p); ok {
			r, script = to, append(script, p)
		} else if r.isDone() {
			break
		}
	}
	return script
}

// pick is any one that some script may have.
func (c *chance) pick() api.Pick {
	if c.Intn(2) == 0 {
		return next(c.Intn(4))
	}
	return drain(c.Intn(4), c.Intn(3))
}

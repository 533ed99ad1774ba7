package axiom_test

import (
	"math"
	"math/rand"
	"slices"
	"strconv"
	"strings"

	"headstock/api"
)

// What the chapter's words say, written out here by themselves: an order is told by the rank that each access has in it, and all orders are gone through.

func load(hart, at, n int) api.Event { return api.Event{Hart: hart, Kind: api.EventLoad, At: at, N: n} }
func store(hart, at, n int) api.Event {
	return api.Event{Hart: hart, Kind: api.EventStore, At: at, N: n}
}
func fence(hart int) api.Event { return api.Event{Hart: hart, Kind: api.EventFence} }

// wantRight goes through what may be wrong, field by field.
func wantRight(l []api.Event) bool {
	wrong := 0
	for _, e := range l {
		if e.Hart != 0 && e.Hart != 1 && e.Hart != 2 && e.Hart != 3 {
			wrong++
		}
		if e.At != 0 && e.At != 1 && e.At != 2 && e.At != 3 {
			wrong++
		}
		if e.N > 1<<31-1 || e.N < -1<<31 {
			wrong++
		}
		switch e.Kind {
		case 1, 2:
		case 3:
			if e.At != 0 || e.N != 0 {
				wrong++
			}
		default:
			wrong++
		}
	}
	return wrong == 0 && len(l) < 9
}

// accesses are the places of loads and stores.
func accesses(l []api.Event) []int {
	var places []int
	for i, e := range l {
		if e.Kind != api.EventFence {
			places = append(places, i)
		}
	}
	return places
}

func wantKeeps(l []api.Event, i, k int) bool {
	places := accesses(l)
	return wantRight(l) && slices.Contains(places, i) && slices.Contains(places, k) && isKept(l, i, k)
}

// isKept is wantKeeps of places of accesses in what is right.
func isKept(l []api.Event, i, k int) bool {
	a, b := l[i], l[k]
	if a.Hart != b.Hart || i >= k {
		return false
	}
	fences := 0
	for j := i + 1; j < k; j++ {
		if l[j].Hart == a.Hart && l[j].Kind == api.EventFence {
			fences++
		}
	}
	return a.Kind == api.EventLoad || a.Kind == api.EventStore && b.Kind == api.EventStore && a.At == b.At || fences > 0
}

// ranks are how far behind each access is; false: it is no order.
func ranks(l []api.Event, order []int) ([]int, bool) {
	if !wantRight(l) || !slices.Equal(slices.Sorted(slices.Values(order)), accesses(l)) {
		return nil, false
	}
	return ranked(l, order), true
}

// ranked is ranks of what is an order.
func ranked(l []api.Event, order []int) []int {
	rank := make([]int, len(l))
	for r, i := range order {
		rank[i] = r
	}
	return rank
}

func wantValue(l []api.Event, order []int, i int) (int, bool) {
	rank, is := ranks(l, order)
	if !is || i < 0 || i >= len(l) || l[i].Kind != api.EventLoad {
		return 0, false
	}
	return told(l, rank, i), true
}

// told is what a load tells by the ranks.
func told(l []api.Event, rank []int, i int) int {
	n, last := 0, -1
	for k, e := range l {
		isSeen := rank[k] < rank[i] || e.Hart == l[i].Hart && k < i
		if e.Kind == api.EventStore && e.At == l[i].At && isSeen && rank[k] > last {
			n, last = e.N, rank[k]
		}
	}
	return n
}

func wantHolds(l []api.Event, order []int) bool {
	rank, is := ranks(l, order)
	return is && isHeld(l, order, rank)
}

// isHeld is wantHolds by the ranks.
func isHeld(l []api.Event, order, rank []int) bool {
	for _, i := range order {
		for _, k := range order {
			if rank[i] > rank[k] && isKept(l, i, k) {
				return false
			}
		}
		if l[i].Kind == api.EventLoad && told(l, rank, i) != l[i].N {
			return false
		}
	}
	return true
}

func wantAllowed(l []api.Event) bool {
	if !wantRight(l) {
		return false
	}
	for order := range orders(accesses(l)) {
		if isHeld(l, order, ranked(l, order)) {
			return true
		}
	}
	return false
}

// orders goes through all orders of places.
func orders(places []int) func(func([]int) bool) {
	return func(yield func([]int) bool) {
		order := slices.Clone(places)
		var from func(n int) bool
		from = func(n int) bool {
			if n == len(order) {
				return yield(slices.Clone(order))
			}
			for i := n; i < len(order); i++ {
				order[n], order[i] = order[i], order[n]
				goesOn := from(n + 1)
				order[n], order[i] = order[i], order[n]
				if !goesOn {
					return false
				}
			}
			return true
		}
		from(0)
	}
}

// lists goes through all lists of so many events of those.
func lists(of []api.Event, n int) func(func([]api.Event) bool) {
	return func(yield func([]api.Event) bool) {
		l := make([]api.Event, n)
		var from func(i int) bool
		from = func(i int) bool {
			if i == n {
				return yield(slices.Clone(l))
			}
			for _, e := range of {
				l[i] = e
				if !from(i + 1) {
					return false
				}
			}
			return true
		}
		from(0)
	}
}

// few are what two harts may do to two words, with few numbers.
var few = []api.Event{
	load(0, 0, 0), load(0, 0, 1), load(0, 1, 0), load(0, 1, 1), store(0, 0, 1), store(0, 1, 1), fence(0),
	load(1, 0, 0), load(1, 0, 1), load(1, 1, 0), load(1, 1, 1), store(1, 0, 1), store(1, 1, 1), fence(1),
}

// text is a list of events.
func text(l []api.Event) string {
	var s []string
	for _, e := range l {
		s = append(s, strings.Join([]string{strconv.Itoa(e.Hart), strconv.Itoa(e.Kind), strconv.Itoa(e.At), strconv.Itoa(e.N)}, " "))
	}
	return strings.Join(s, ", ")
}

// someNumbers are such as may be, and noNumbers such as may not.
var someNumbers = []int{0, 1, -1, 2, 255, 256, 1 << 30, 1<<31 - 1, -1 << 31, 1 - 1<<31}

var noNumbers = []int{1 << 31, 1<<31 + 1, -1<<31 - 1, 1<<32 - 1, 1 << 32, 1<<32 + 1, -1 << 32, 5<<40 + 7, math.MaxInt, math.MinInt}

// noPlaces are no places of any list that is right, nor harts, nor words.
var noPlaces = []int{-1, 8, 9, 255, 256, 1 << 31, 1 << 32, 1<<32 + 1, -1 << 32, math.MaxInt, math.MinInt}

// chance is events by chance.
type chance struct{ *rand.Rand }

// event is one of so many harts and words; its number is 0 to 2.
func (c *chance) event(harts, words int) api.Event {
	hart, at := c.Intn(harts), c.Intn(words)
	switch c.Intn(12) {
	case 0:
		return fence(hart)
	case 1, 2, 3, 4, 5, 6:
		return load(hart, at, c.Intn(3))
	}
	return store(hart, at, c.Intn(3))
}

// list is events of few harts and words: of more they seldom have to do with one another.
func (c *chance) list(n int) []api.Event {
	harts, words := 2, 1+c.Intn(2)
	if c.Intn(4) == 0 {
		harts, words = 1+c.Intn(4), 1+c.Intn(4)
	}
	var l []api.Event
	for range n {
		l = append(l, c.event(harts, words))
	}
	return l
}

// likely is a list whose loads tell what they tell in some order, which keeps what it must; but one of them may tell something else.
func (c *chance) likely(n int) []api.Event {
	l := c.list(n)
	order := c.order(l)
	for i, e := range l {
		if n, isLoad := wantValue(l, order, i); isLoad {
			l[i] = load(e.Hart, e.At, n)
		}
	}
	if i := c.Intn(n + 1); i < n && l[i].Kind == api.EventLoad {
		l[i].N = c.Intn(3)
	}
	return l
}

// order is one of those that keep what they must.
func (c *chance) order(l []api.Event) []int {
	var order []int
	left := accesses(l)
	for len(left) > 0 {
		at := c.Intn(len(left))
		isLate := func(i int) bool { return wantKeeps(l, i, left[at]) }
		if !slices.ContainsFunc(left, isLate) {
			order = append(order, left[at])
			left = slices.Delete(left, at, at+1)
		}
	}
	return order
}

// inOrder is the list with the loads' numbers as they are, if all is done one by one, as the list stands.
func inOrder(l []api.Event) []api.Event {
	l = slices.Clone(l)
	words := map[int]int{}
	for i, e := range l {
		switch e.Kind {
		case api.EventLoad:
			l[i].N = words[e.At]
		case api.EventStore:
			words[e.At] = e.N
		}
	}
	return l
}

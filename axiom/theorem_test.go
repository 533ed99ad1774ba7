package axiom_test

import (
	"math"
	"math/rand"
	"slices"
	"sync"
	"testing"

	"headstock/api"
	"headstock/axiom"
)

// A1 to A4: all short lists of what matters, with all orders of their accesses, by the words.
func TestShortLists(t *testing.T) {
	for n := range 4 {
		for l := range lists(few, n) {
			if !axiom.Right(l) {
				t.Fatalf("not right: %s", text(l))
			}
			for i := -1; i <= n; i++ {
				for k := -1; k <= n; k++ {
					if got, want := axiom.Keeps(l, i, k), wantKeeps(l, i, k); got != want {
						t.Fatalf("Keeps(%s; %d, %d): %v", text(l), i, k, got)
					}
				}
			}
			for order := range orders(accesses(l)) {
				holdAgainst(t, l, order)
			}
		}
	}
}

// holdAgainst holds what is told of an order, or of what is none, against the words.
func holdAgainst(t *testing.T, l []api.Event, order []int) {
	t.Helper()
	for i := -1; i <= len(l); i++ {
		n, is := axiom.Value(l, order, i)
		if want, wantIs := wantValue(l, order, i); n != want || is != wantIs {
			t.Fatalf("Value(%s; %v, %d): %d, %v, not %d, %v", text(l), order, i, n, is, want, wantIs)
		}
	}
	if got, want := axiom.Holds(l, order), wantHolds(l, order); got != want {
		t.Fatalf("Holds(%s; %v): %v", text(l), order, got)
	}
}

// A4: which short lists may be, by the words.
func TestShortAllowed(t *testing.T) {
	counts := map[bool]int{}
	for n := range 5 {
		for l := range lists(few, n) {
			got := axiom.Allowed(l)
			if got != wantAllowed(l) {
				t.Fatalf("Allowed(%s): %v", text(l), got)
			}
			counts[got]++
		}
	}
	if counts[true] < 10000 || counts[false] < 10000 {
		t.Errorf("%v", counts)
	}
}

// A3, A4: lists of places that are orders, and such as are none.
func TestOrders(t *testing.T) {
	l := []api.Event{store(0, 0, 1), fence(0), load(0, 0, 1), store(1, 0, 2)}
	for n := range 6 {
		for order := range places(n, -1, len(l)) {
			holdAgainst(t, l, order)
		}
	}
	for order := range places(3, -2, 4) {
		holdAgainst(t, []api.Event{load(2, 1, 0), store(2, 1, 3), load(1, 1, 3)}, order)
		holdAgainst(t, []api.Event{fence(2), fence(1), fence(1)}, order)
		holdAgainst(t, []api.Event{load(2, 1, 0), store(2, 4, 3), load(1, 1, 3)}, order)
	}
}

// places goes through all lists of n numbers of those from low to high.
func places(n, low, high int) func(func([]int) bool) {
	return func(yield func([]int) bool) {
		order := slices.Repeat([]int{low}, n)
		for {
			if !yield(slices.Clone(order)) {
				return
			}
			i := n - 1
			for ; i >= 0 && order[i] == high; i-- {
				order[i] = low
			}
			if i < 0 {
				return
			}
			order[i]++
		}
	}
}

// A1 to A4: lists by chance, up to eight events, by the words.
func TestByChance(t *testing.T) {
	c := &chance{rand.New(rand.NewSource(71))}
	counts := map[bool]int{}
	for range 3000 {
		l := c.likely(c.Intn(9))
		for i := range l {
			for k := range l {
				if got := axiom.Keeps(l, i, k); got != wantKeeps(l, i, k) {
					t.Fatalf("Keeps(%s; %d, %d): %v", text(l), i, k, got)
				}
			}
		}
		order := c.order(l)
		counts[axiom.Holds(l, order)]++
		holdAgainst(t, l, order)
		holdAgainst(t, l, c.shuffled(order))
	}
	if counts[true] < 300 || counts[false] < 300 {
		t.Errorf("%v", counts)
	}
}

// shuffled is an order of the same places that need not keep anything.
func (c *chance) shuffled(order []int) []int {
	order = slices.Clone(order)
	c.Shuffle(len(order), func(i, k int) { order[i], order[k] = order[k], order[i] })
	return order
}

// A4: which lists by chance may be, by all orders.
func TestAllowedByChance(t *testing.T) {
	c := &chance{rand.New(rand.NewSource(72))}
	counts := map[bool]int{}
	for i := range 2000 {
		n := 5 + c.Intn(2)
		// All orders of eight are many.
		if i%40 == 0 {
			n = 8
		}
		l := c.likely(n)
		got := axiom.Allowed(l)
		if got != wantAllowed(l) {
			t.Fatalf("Allowed(%s): %v", text(l), got)
		}
		counts[got]++
	}
	if counts[true] < 200 || counts[false] < 200 {
		t.Errorf("%v", counts)
	}
}

// A4: just if an order holds, the list may be; of the orders that keep what they must, each gives numbers to the loads with which it may be.
func TestAllowedByAnOrder(t *testing.T) {
	c := &chance{rand.New(rand.NewSource(73))}
	for range 3000 {
		l := c.list(c.Intn(9))
		order := c.order(l)
		for i := range l {
			if n, isLoad := axiom.Value(l, order, i); isLoad {
				l[i].N = n
			}
		}
		if !axiom.Holds(l, order) || !axiom.Allowed(l) {
			t.Fatalf("%s; %v: %v, %v", text(l), order, axiom.Holds(l, order), axiom.Allowed(l))
		}
	}
}

// A5: what holds one by one, in the order in which the list stands, may be.
func TestOneByOne(t *testing.T) {
	c := &chance{rand.New(rand.NewSource(74))}
	for range 3000 {
		l := inOrder(c.list(c.Intn(9)))
		if !axiom.Holds(l, accesses(l)) || !axiom.Allowed(l) {
			t.Fatalf("%s: %v, %v", text(l), axiom.Holds(l, accesses(l)), axiom.Allowed(l))
		}
	}
}

// A5: a fence more lets no more be; and there are such as let less be.
func TestFenceMore(t *testing.T) {
	less := 0
	for l := range lists(few, 4) {
		less += lessByFence(t, l, 2)
	}
	if less < 30 {
		t.Errorf("%d times", less)
	}
	c := &chance{rand.New(rand.NewSource(75))}
	for range 2000 {
		lessByFence(t, c.likely(5+c.Intn(3)), 4)
	}
}

// lessByFence is how many fences of so many harts, each put somewhere, let no more be what may be without it.
func lessByFence(t *testing.T, l []api.Event, harts int) int {
	t.Helper()
	may := axiom.Allowed(l)
	less := 0
	for hart := range harts {
		for at := range len(l) + 1 {
			mayFenced := axiom.Allowed(slices.Insert(slices.Clone(l), at, fence(hart)))
			if mayFenced && !may {
				t.Fatalf("%s: it may be with a fence of %d at %d", text(l), hart, at)
			}
			if may && !mayFenced {
				less++
			}
		}
	}
	return less
}

// A5: events of one hart alone may be just if each load tells what was stored there last ahead in program.
func TestOneHart(t *testing.T) {
	alone := []api.Event{load(2, 0, 0), load(2, 0, 1), load(2, 0, 2), load(2, 3, 0), load(2, 3, 1), store(2, 0, 1), store(2, 0, 2), store(2, 3, 1), fence(2)}
	counts := map[bool]int{}
	for n := range 6 {
		for l := range lists(alone, n) {
			got := axiom.Allowed(l)
			if got != slices.Equal(l, inOrder(l)) {
				t.Fatalf("%s: %v", text(l), got)
			}
			counts[got]++
		}
	}
	if counts[true] < 1000 || counts[false] < 1000 {
		t.Errorf("%v", counts)
	}
}

// A5: by another numbering of harts and words the same may be.
func TestNumbering(t *testing.T) {
	c := &chance{rand.New(rand.NewSource(76))}
	counts := map[bool]int{}
	for range 3000 {
		l := c.likely(c.Intn(9))
		may := axiom.Allowed(l)
		counts[may]++
		for range 4 {
			harts, words := c.Perm(4), c.Perm(4)
			other := slices.Clone(l)
			for i, e := range l {
				other[i].Hart = harts[e.Hart]
				if e.Kind != api.EventFence {
					other[i].At = words[e.At]
				}
			}
			if axiom.Allowed(other) != may {
				t.Fatalf("%s: %v, but not %s", text(l), may, text(other))
			}
		}
	}
	if counts[true] < 300 || counts[false] < 300 {
		t.Errorf("%v", counts)
	}
}

// A2, A4: in which places of the list two harts' events stand does not matter.
func TestInterleaving(t *testing.T) {
	c := &chance{rand.New(rand.NewSource(77))}
	for range 3000 {
		l := c.likely(c.Intn(9))
		byHart := slices.Clone(l)
		slices.SortStableFunc(byHart, func(a, b api.Event) int { return a.Hart - b.Hart })
		if axiom.Allowed(l) != axiom.Allowed(byHart) {
			t.Fatalf("%s: %v", text(l), axiom.Allowed(l))
		}
	}
}

// R4: what is told hangs on the arguments alone, whatever was asked ahead, and at the same time.
func TestSameAgain(t *testing.T) {
	c := &chance{rand.New(rand.NewSource(78))}
	var all [][]api.Event
	var want []bool
	for range 200 {
		l := c.likely(c.Intn(9))
		all, want = append(all, l), append(want, axiom.Allowed(l))
	}
	var group sync.WaitGroup
	for range 4 {
		group.Go(func() {
			for i := range all {
				if got := axiom.Allowed(all[len(all)-1-i]); got != want[len(all)-1-i] {
					t.Errorf("%s: %v", text(all[len(all)-1-i]), got)
				}
			}
		})
	}
	group.Wait()
}

// R3: what is handed in is not written into, nor is what stands behind its length, which is not read either.
func TestNotWritten(t *testing.T) {
	c := &chance{rand.New(rand.NewSource(79))}
	for range 300 {
		l := c.likely(c.Intn(9))
		order := c.order(l)
		roomyList := append(slices.Clone(l), store(0, 0, 1), fence(1), load(9, 9, 9))
		roomyOrder := append(slices.Clone(order), len(l), 0, 99)
		wantList, wantOrder := slices.Clone(roomyList), slices.Clone(roomyOrder)
		l, order = roomyList[:len(l)], roomyOrder[:len(order)]
		if !axiom.Right(l) || axiom.Allowed(l) != axiom.Allowed(slices.Clone(l)) {
			t.Fatalf("%s: %v, %v", text(l), axiom.Right(l), axiom.Allowed(l))
		}
		holdAgainst(t, l, order)
		axiom.Keeps(l, 0, len(l)-1)
		if !slices.Equal(roomyList, wantList) || !slices.Equal(roomyOrder, wantOrder) {
			t.Fatalf("%s; %v, not %s; %v", text(roomyList), roomyOrder, text(wantList), wantOrder)
		}
	}
}

// R1: no call panics, whatever it is given, and each ends.
func TestNoneFails(t *testing.T) {
	edges := []int{0, 1, 2, 3, 4, 7, 8, -1, 1 << 32, math.MaxInt, math.MinInt}
	var all [][]api.Event
	for _, n := range edges {
		for _, e := range []api.Event{{Hart: n, Kind: 1}, {Kind: n}, {Kind: 1, At: n}, {Kind: 2, At: n}, {Kind: 2, N: n}, {Hart: n, Kind: n, At: n, N: n}} {
			all = append(all, []api.Event{e}, []api.Event{store(0, 0, 1), e}, slices.Repeat([]api.Event{e}, 9), slices.Repeat([]api.Event{e}, 70))
		}
	}
	for _, l := range append(all, nil) {
		if axiom.Right(l) != wantRight(l) || axiom.Allowed(l) && !axiom.Right(l) {
			t.Errorf("%s: %v, %v", text(l), axiom.Right(l), axiom.Allowed(l))
		}
		for _, i := range edges {
			for _, k := range edges {
				axiom.Keeps(l, i, k)
				axiom.Holds(l, []int{i, k})
				axiom.Value(l, []int{i}, k)
				axiom.Value(l, []int{i, k}, k)
			}
		}
	}
}

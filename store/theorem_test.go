package store_test

import (
	"math"
	"math/rand"
	"slices"
	"testing"

	"headstock/api"
	"headstock/store"
)

// S2 to S4: all short pasts, of what matters, by the words.
func TestShortPasts(t *testing.T) {
	acts := []act{put(0, 0, 1), put(0, 1, 2), put(1, 0, 3), drain(0, 0), drain(0, 1), flush(1), reserve(0, 0), reserve(1, 0), conditional(0, 0, 4), conditional(1, 0, 5), change(1, 1, api.OpAdd, 6), load(0, 0)}
	m, p := begun(t, 2, 2)
	goOnAll(t, m, p, acts, 5)
}

// goOnAll does each of these so many times one behind the other.
func goOnAll(t *testing.T, m api.Memory, p past, acts []act, left int) {
	t.Helper()
	if left == 0 {
		return
	}
	for _, x := range acts {
		if got, out, behind := goOn(t, m, p, x); got.err == api.OK {
			goOnAll(t, out, behind, acts, left-1)
		}
	}
}

// S2 to S4: long pasts by chance, by the words; each thing and each error comes about often.
func TestLongPasts(t *testing.T) {
	c := &chance{rand.New(rand.NewSource(61))}
	type come struct {
		do  byte
		yes bool
		err api.Errno
	}
	seen := map[come]int{}
	for range 400 {
		m, p := begun(t, 1+c.Intn(4), 1+c.Intn(4))
		for range c.Intn(80) {
			x := c.act(p)
			var got told
			got, m, p = goOn(t, m, p, x)
			seen[come{x.do, got.yes, got.err}]++
		}
	}
	for _, x := range []come{
		{'l', false, api.OK}, {'l', false, api.ErrArg}, {'s', false, api.OK}, {'s', false, api.ErrArg}, {'s', false, api.ErrFull},
		{'d', false, api.OK}, {'d', false, api.ErrArg}, {'d', false, api.ErrAhead}, {'f', false, api.OK}, {'f', false, api.ErrArg},
		{'r', false, api.OK}, {'r', false, api.ErrArg}, {'r', false, api.ErrBusy}, {'c', false, api.OK}, {'c', true, api.OK}, {'c', false, api.ErrArg}, {'c', false, api.ErrBusy},
		{'x', false, api.OK}, {'x', false, api.ErrArg}, {'x', false, api.ErrBusy},
	} {
		if seen[x] < 20 {
			t.Errorf("%c, %v, %v: %d times", x.do, x.yes, x.err, seen[x])
		}
	}
}

// R4: what is told hangs on the memory alone that is handed in: of many, older ones go on, too, and are what they were.
func TestManyGoOn(t *testing.T) {
	c := &chance{rand.New(rand.NewSource(62))}
	type one struct {
		m api.Memory
		p past
	}
	m, p := begun(t, 3, 3)
	all := []one{{m, p}}
	for range 1500 {
		from := all[c.Intn(len(all))]
		_, m, p := goOn(t, from.m, from.p, c.act(from.p))
		all = append(all, one{m, p})
	}
	for _, x := range all {
		if !isSame(x.m, x.p.memory()) {
			t.Fatalf("%v, not %v: %v", x.m, x.p.memory(), x.p)
		}
	}
}

// may is the memory behind an act, or the same one, if the act may not be.
func may(m api.Memory, x act) api.Memory {
	if r, out := done(m, x); r.err == api.OK {
		return out
	}
	return m
}

// S6: a hart loads what it stored last, if no other one stores there, whatever was drained, and in which order.
func TestLoadsItsLast(t *testing.T) {
	c := &chance{rand.New(rand.NewSource(63))}
	for range 300 {
		m := after(t, 3, 6)
		last := map[[2]int]int{}
		for range 60 {
			// Each word is one hart's alone.
			hart := c.Intn(3)
			at := 2*hart + c.Intn(2)
			if n := c.number(); c.Intn(2) == 0 && len(m.Pending[hart]) < 8 {
				m, last[[2]int{hart, at}] = may(m, put(hart, at, n)), cut(n)
			} else {
				m = may(m, drain(c.Intn(3), c.Intn(8)))
			}
			if got, err := store.Load(m, hart, at); got != last[[2]int{hart, at}] || err != api.OK {
				t.Fatalf("hart %d, word %d: %d, %v, not %d", hart, at, got, err, last[[2]int{hart, at}])
			}
		}
	}
}

// drainAll drains all that is pending, in an order by chance.
func (c *chance) drainAll(t *testing.T, m api.Memory) api.Memory {
	t.Helper()
	for turns := 0; slices.ContainsFunc(m.Pending, func(l []api.Entry) bool { return len(l) > 0 }); turns++ {
		if turns > 10000 {
			t.Fatalf("it is never drained: %v", m)
		}
		hart := c.Intn(len(m.Pending))
		if left := len(m.Pending[hart]); left > 0 {
			m = may(m, drain(hart, c.Intn(left)))
		}
	}
	return m
}

// S6: stores to unlike words may be drained in any order.
func TestAnyOrder(t *testing.T) {
	c := &chance{rand.New(rand.NewSource(64))}
	for range 200 {
		m := after(t, 2, 16, reserve(0, 15), reserve(1, 0))
		for i, at := range c.Perm(16)[:2+c.Intn(14)] {
			m = may(m, put(i%2, at, c.number()))
		}
		want := may(may(m, flush(0)), flush(1))
		for range 6 {
			if got := c.drainAll(t, m); !store.Same(got, want) {
				t.Fatalf("%v, not %v, of %v", got, want, m)
			}
		}
	}
}

// S3, S6: of one hart's stores to any words each order that may be comes to what Flush comes to.
func TestFlushIsAnyOrder(t *testing.T) {
	c := &chance{rand.New(rand.NewSource(65))}
	for range 200 {
		m := after(t, 3, 3, reserve(1, 0), reserve(2, 2), reserve(0, 1))
		for range c.Intn(9) {
			m = may(m, put(0, c.Intn(3), c.number()))
		}
		for range 6 {
			if got, want := c.drainAll(t, m), may(m, flush(0)); !store.Same(got, want) {
				t.Fatalf("%v, not %v, of %v", got, want, m)
			}
		}
	}
}

// S6: what one hart has pending no other one loads, nor reserves, nor changes.
func TestPendingIsApart(t *testing.T) {
	for _, m := range someMemories(t) {
		for hart := range m.Pending {
			for at := range m.Words {
				stored := may(m, put(hart, at, 1234567))
				for other := range m.Pending {
					for word := range m.Words {
						for _, x := range []act{load(other, word), reserve(other, word), change(other, word, 0, 1)} {
							got, _ := done(stored, x)
							want, _ := done(m, x)
							if other != hart && got != want {
								t.Fatalf("%v: %v, not %v, of %v", x, got, want, stored)
							}
						}
					}
				}
			}
		}
	}
}

// S6: Conditional tells true just if the hart has reserved that word (with no Conditional of its own since), and since then no store of another one went there.
func TestConditionalJustIf(t *testing.T) {
	c := &chance{rand.New(rand.NewSource(66))}
	counts := map[bool]int{}
	for range 600 {
		m := after(t, 3, 2)
		// What hart 0 has reserved, by what is done; another's store goes there when the word is another one's, too.
		has := -1
		for range 30 {
			x := []act{reserve(0, c.Intn(2)), put(c.Intn(3), c.Intn(2), c.Intn(3)), drain(c.Intn(3), 0), flush(c.Intn(3)), change(c.Intn(3), c.Intn(2), 1, 0), reserve(1, c.Intn(2)), conditional(1, c.Intn(2), 0)}[c.Intn(7)]
			var goes []int
			switch {
			case x.do == 'd' && len(m.Pending[x.hart]) > 0:
				goes = []int{m.Pending[x.hart][0].At}
			case x.do == 'f':
				for _, e := range m.Pending[x.hart] {
					goes = append(goes, e.At)
				}
			case x.do == 'x' && len(m.Pending[x.hart]) == 0:
				goes = []int{x.at}
			}
			r, out := done(m, x)
			if r.yes {
				goes = []int{x.at}
			}
			if r.err != api.OK {
				continue
			}
			m = out
			if x.do == 'r' && x.hart == 0 {
				has = x.at
			} else if x.hart != 0 && slices.Contains(goes, has) {
				has = -1
			}
			at := c.Intn(2)
			got, out := done(m, conditional(0, at, 7))
			if got.err != api.OK {
				continue
			}
			if got.yes != (has == at) {
				t.Fatalf("%v, but it has %d, not %d: %v", got.yes, has, at, m)
			}
			counts[got.yes]++
			if c.Intn(3) == 0 {
				m, has = out, -1
			}
		}
	}
	if counts[true] < 500 || counts[false] < 500 {
		t.Errorf("%v", counts)
	}
}

// everyCall is what all calls told of a memory that tell memory.
func everyCall(m api.Memory) []api.Memory {
	var l []api.Memory
	for hart := range m.Pending {
		for _, x := range []act{put(hart, 0, 77), flush(hart), drain(hart, 0), drain(hart, 1), reserve(hart, 0), conditional(hart, 0, 78), change(hart, 0, api.OpAdd, 79)} {
			_, out := done(m, x)
			l = append(l, out)
		}
	}
	return l
}

// copyOf is the same in other memory.
func copyOf(m api.Memory) api.Memory {
	out := api.Memory{Words: slices.Clone(m.Words), Reserved: slices.Clone(m.Reserved)}
	for _, l := range m.Pending {
		out.Pending = append(out.Pending, slices.Clone(l))
	}
	return out
}

// withRoom is the same with spare room behind each list, in which something stands.
func withRoom(m api.Memory) api.Memory {
	out := api.Memory{
		Words:    append(slices.Clone(m.Words), 91, 92)[:len(m.Words)],
		Reserved: append(slices.Clone(m.Reserved), 93, 94)[:len(m.Reserved)],
	}
	for _, l := range m.Pending {
		out.Pending = append(out.Pending, append(slices.Clone(l), api.Entry{At: 95, N: 96}, api.Entry{At: 97, N: 98})[:len(l)])
	}
	out.Pending = append(out.Pending, []api.Entry{{At: 99, N: 99}})[:len(m.Pending)]
	return out
}

// roomText is what stands in the lists and behind them, up to the two (of harts, one) that withRoom laid there.
func roomText(m api.Memory) string {
	all := api.Memory{Words: m.Words[:len(m.Words)+2], Reserved: m.Reserved[:len(m.Reserved)+2]}
	for i, l := range m.Pending[:len(m.Pending)+1] {
		if i < len(m.Pending) {
			l = l[:len(l)+2]
		}
		all.Pending = append(all.Pending, l)
	}
	return text(all)
}

// spoil writes into all of a memory, and into all that stands behind its lists.
func spoil(m api.Memory) {
	fill := func(l []int) {
		l = l[:cap(l)]
		for i := range l {
			l[i] = 5555
		}
	}
	for _, l := range m.Pending[:cap(m.Pending)] {
		l = l[:cap(l)]
		for i := range l {
			l[i] = api.Entry{At: 5555, N: 5555}
		}
	}
	fill(m.Words)
	fill(m.Reserved)
	l := m.Pending[:cap(m.Pending)]
	for i := range l {
		l[i] = []api.Entry{{At: 5555, N: 5555}}
	}
}

// grow writes behind all lists of a memory.
func grow(m api.Memory) {
	_ = append(m.Words, 6666)
	_ = append(m.Reserved, 6666)
	for _, l := range m.Pending {
		_ = append(l, api.Entry{At: 6666, N: 6666})
	}
	_ = append(m.Pending, []api.Entry{{At: 6666, N: 6666}})
}

// R3: what is handed in is not written into, nor is what stands behind its length.
func TestNotWritten(t *testing.T) {
	for _, m := range someMemories(t) {
		m = withRoom(m)
		before := roomText(m)
		everyCall(m)
		store.Load(m, 0, 0)
		store.Same(m, copyOf(m))
		store.Same(copyOf(m), m)
		if after := roomText(m); after != before {
			t.Errorf("%s, not %s", after, before)
		}
	}
}

// R3: who owns an answer may write into it and grow it, and who handed something in may write into that: no other answer is changed.
func TestOwn(t *testing.T) {
	for _, one := range someMemories(t) {
		m := withRoom(one)
		var want []api.Memory
		for _, told := range everyCall(m) {
			want = append(want, copyOf(told))
		}
		before := roomText(m)
		got := everyCall(m)
		for i, told := range got {
			grow(told)
			if !isSame(told, want[i]) {
				t.Fatalf("grown: %v, not %v", told, want[i])
			}
			spoil(told)
			for k := i + 1; k < len(got); k++ {
				if !isSame(got[k], want[k]) {
					t.Fatalf("answer %d changed answer %d: %v, not %v", i, k, got[k], want[k])
				}
			}
		}
		if roomText(m) != before {
			t.Fatalf("an answer changed what was handed in: %v", m)
		}
		got = everyCall(m)
		spoil(m)
		for i := range got {
			if !isSame(got[i], want[i]) {
				t.Fatalf("what was handed in changed answer %d: %v, not %v", i, got[i], want[i])
			}
		}
	}
	a, _ := store.New(4, 8)
	b, _ := store.New(4, 8)
	grow(a)
	spoil(a)
	if !isSame(b, after(t, 4, 8)) {
		t.Errorf("a new one changed another: %v", b)
	}
}

// R1: no call panics, not even of what no call told, and each ends.
func TestNoneFails(t *testing.T) {
	places := []int{0, 1, 2, 3, 8, -1, 1 << 32, math.MaxInt, math.MinInt}
	entries := func(n int) []api.Entry {
		var l []api.Entry
		for _, at := range places {
			l = append(l, api.Entry{At: at, N: n})
		}
		return l
	}
	for _, n := range someNumbers {
		for _, m := range []api.Memory{
			{},
			{Words: []int{n}},
			{Words: []int{n, n}, Pending: [][]api.Entry{entries(n), nil}},
			{Words: []int{n, n}, Reserved: []int{n, n}},
			{Pending: [][]api.Entry{entries(n), nil}, Reserved: []int{n, n}},
			{Words: []int{n, n}, Pending: [][]api.Entry{nil, entries(n)}, Reserved: []int{n}},
			{Words: []int{n, n}, Pending: [][]api.Entry{nil, entries(n)[:n&7]}, Reserved: []int{n, n, n}},
			{Words: []int{n, n}, Pending: [][]api.Entry{nil, nil, nil, nil, nil}, Reserved: []int{n, n, n, -1, 0}},
		} {
			for _, hart := range places {
				for _, at := range places {
					for _, do := range "lsdfrcx" {
						for _, op := range []int{0, 1, 9, 15, -1} {
							done(m, act{byte(do), hart, at, op, n})
						}
					}
				}
			}
			if !store.Same(m, m) {
				t.Errorf("not the same as itself: %v", m)
			}
		}
	}
}

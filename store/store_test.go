package store_test

import (
	"math"
	"math/rand"
	"slices"
	"testing"

	"headstock/api"
	"headstock/store"
)

// S1: so many harts and words, none of which has anything; or ErrArg.
func TestNew(t *testing.T) {
	for _, harts := range []int{1, 2, 3, 4} {
		for _, words := range []int{0, 1, 2, 7, 100, 4095, 4096} {
			m, err := store.New(harts, words)
			if err != api.OK || len(m.Words) != words || len(m.Pending) != harts || !slices.Equal(m.Reserved, slices.Repeat([]int{-1}, harts)) {
				t.Fatalf("New(%d, %d): %v, %v", harts, words, m, err)
			}
			if slices.ContainsFunc(m.Words, func(n int) bool { return n != 0 }) || slices.ContainsFunc(m.Pending, func(l []api.Entry) bool { return len(l) > 0 }) {
				t.Errorf("New(%d, %d): %v", harts, words, m)
			}
		}
	}
	for _, x := range [][2]int{{0, 1}, {5, 1}, {-1, 1}, {1, -1}, {4, 4097}, {1 << 32, 1}, {1<<32 + 1, 1}, {1, 1 << 32}, {0, 4097}, {5, -1}, {math.MaxInt, math.MaxInt}, {math.MinInt, math.MinInt}, {1, math.MinInt}, {2, math.MaxInt}} {
		if m, err := store.New(x[0], x[1]); err != api.ErrArg || !isEmpty(m) {
			t.Errorf("New(%d, %d): %v, %v", x[0], x[1], m, err)
		}
	}
}

// step is something done, and what it tells.
type step struct {
	act
	told
}

func is(x act, n int) step            { return step{x, told{n: n}} }
func ok(x act) step                   { return step{x, told{}} }
func fails(x act, err api.Errno) step { return step{x, told{err: err}} }
func stores(x act, yes bool) step     { return step{x, told{yes: yes}} }

// play does the steps to a new memory; each is held against the words, too.
func play(t *testing.T, name string, harts, words int, steps []step) {
	t.Helper()
	m, p := begun(t, harts, words)
	for i, x := range steps {
		var got told
		if got, m, p = goOn(t, m, p, x.act); got != x.told {
			t.Errorf("%s, step %d: %v: %v, not %v", name, i, x.act, got, x.told)
		}
	}
}

// The chapter's example.
func TestExample(t *testing.T) {
	play(t, "example", 2, 2, []step{ok(put(0, 0, 1)), ok(put(0, 1, 1)), ok(drain(0, 1)), is(load(1, 0), 0), is(load(1, 1), 1)})
}

// S2: what a hart loads.
func TestLoad(t *testing.T) {
	for name, steps := range map[string][]step{
		"at first":       {is(load(0, 0), 0), is(load(2, 3), 0)},
		"the last one":   {ok(put(1, 2, 5)), ok(put(1, 2, 6)), ok(put(1, 3, 7)), is(load(1, 2), 6), is(load(1, 3), 7), is(load(1, 1), 0), is(load(1, 0), 0)},
		"its own":        {ok(put(0, 2, 5)), ok(put(1, 2, 6)), is(load(0, 2), 5), is(load(1, 2), 6), is(load(2, 2), 0)},
		"ahead of words": {ok(put(0, 1, 5)), ok(drain(0, 0)), ok(put(1, 1, 6)), is(load(0, 1), 5), is(load(1, 1), 6), is(load(2, 1), 5)},
		"a nought":       {ok(put(0, 1, 5)), ok(flush(0)), ok(put(0, 1, 0)), is(load(0, 1), 0), is(load(1, 1), 5), ok(put(0, 1, 9)), is(load(0, 1), 9)},
		"older ones":     {ok(put(0, 1, 5)), ok(put(0, 1, 6)), ok(put(0, 2, 7)), ok(drain(0, 0)), is(load(0, 1), 6), is(load(1, 1), 5), ok(drain(0, 0)), is(load(1, 1), 6)},
		"a word's N":     {ok(put(0, 2, 3)), ok(put(0, 3, 2)), is(load(0, 2), 3), is(load(0, 3), 2)},
		"no hart":        {fails(load(3, 0), api.ErrArg), fails(load(-1, 0), api.ErrArg), fails(load(math.MaxInt, 0), api.ErrArg), fails(load(math.MinInt, 0), api.ErrArg)},
		"no word":        {fails(load(0, 4), api.ErrArg), fails(load(0, -1), api.ErrArg), fails(load(0, math.MaxInt), api.ErrArg), fails(load(0, math.MinInt), api.ErrArg)},
		"neither":        {fails(load(4, 4), api.ErrArg)},
	} {
		play(t, name, 3, 4, steps)
	}
	if _, err := store.Load(after(t, 1, 0), 0, 0); err != api.ErrArg {
		t.Errorf("a word of none: %v", err)
	}
}

// S2: what is stored is cut, and pending behind the others.
func TestStore(t *testing.T) {
	for _, n := range someNumbers {
		m := after(t, 2, 3, put(1, 2, 4), put(1, 0, n))
		if !slices.Equal(m.Pending[1], []api.Entry{{At: 2, N: 4}, {At: 0, N: cut(n)}}) || len(m.Pending[0]) != 0 || m.Words[0] != 0 {
			t.Errorf("%d: %v", n, m)
		}
	}
	for name, steps := range map[string][]step{
		"no hart": {fails(put(2, 0, 1), api.ErrArg), fails(put(-1, 0, 1), api.ErrArg), fails(put(4, 0, 1), api.ErrArg), fails(put(1<<32, 0, 1), api.ErrArg)},
		"no word": {fails(put(0, 3, 1), api.ErrArg), fails(put(0, -1, 1), api.ErrArg), fails(put(0, 4096, 1), api.ErrArg), fails(put(1, 1<<32, 1), api.ErrArg)},
	} {
		play(t, name, 2, 3, steps)
	}
}

// full are as many stores of a hart as may be pending, to words by turns.
func full(hart, words int) []step {
	var l []step
	for i := range 8 {
		l = append(l, ok(put(hart, i%words, i)))
	}
	return l
}

// S2: eight may be pending of each hart; ErrArg is ahead of ErrFull.
func TestFull(t *testing.T) {
	for name, steps := range map[string][]step{
		"a ninth":       {fails(put(0, 0, 1), api.ErrFull), fails(put(0, 2, 1), api.ErrFull), is(load(0, 0), 6), is(load(0, 1), 7)},
		"another hart":  {ok(put(1, 0, 1)), is(load(1, 0), 1), fails(put(0, 0, 1), api.ErrFull)},
		"behind one":    {ok(drain(0, 1)), ok(put(0, 2, 11)), fails(put(0, 0, 1), api.ErrFull), is(load(0, 2), 11)},
		"behind all":    append(append([]step{ok(flush(0))}, full(0, 1)...), fails(put(0, 0, 1), api.ErrFull)),
		"nothing there": {fails(put(0, 3, 1), api.ErrArg), fails(put(2, 0, 1), api.ErrArg), fails(put(0, -1, 1), api.ErrArg)},
		"drained":       {fails(drain(0, 8), api.ErrArg), fails(drain(0, 7), api.ErrAhead), ok(drain(0, 0)), fails(drain(0, 7), api.ErrArg)},
	} {
		play(t, name, 2, 3, append(full(0, 2), steps...))
	}
}

// S3: which may be drained, and what that does.
func TestDrain(t *testing.T) {
	for name, steps := range map[string][]step{
		"none":           {fails(drain(0, 0), api.ErrArg), fails(drain(0, -1), api.ErrArg), fails(drain(2, 0), api.ErrArg)},
		"in order":       {ok(put(0, 0, 5)), ok(put(0, 1, 6)), ok(drain(0, 0)), is(load(1, 0), 5), is(load(1, 1), 0), ok(drain(0, 0)), is(load(1, 1), 6), fails(drain(0, 0), api.ErrArg)},
		"out of order":   {ok(put(0, 0, 5)), ok(put(0, 1, 6)), ok(put(0, 2, 7)), ok(drain(0, 1)), is(load(1, 1), 6), ok(drain(0, 1)), is(load(1, 2), 7), is(load(1, 0), 0), fails(drain(0, 1), api.ErrArg)},
		"ahead":          {ok(put(0, 0, 5)), ok(put(0, 0, 6)), fails(drain(0, 1), api.ErrAhead), ok(drain(0, 0)), is(load(1, 0), 5), ok(drain(0, 0)), is(load(1, 0), 6)},
		"far ahead":      {ok(put(0, 0, 5)), ok(put(0, 1, 6)), ok(put(0, 2, 7)), ok(put(0, 0, 8)), fails(drain(0, 3), api.ErrAhead), ok(drain(0, 1)), fails(drain(0, 2), api.ErrAhead), fails(drain(0, 3), api.ErrArg), ok(drain(0, 0)), ok(drain(0, 1)), is(load(1, 0), 8)},
		"behind is none": {ok(put(0, 0, 5)), ok(put(0, 1, 6)), ok(put(0, 1, 7)), ok(drain(0, 1)), is(load(1, 1), 6), is(load(0, 1), 7)},
		"another's":      {ok(put(0, 0, 5)), ok(put(1, 1, 4)), ok(put(1, 0, 6)), ok(drain(1, 1)), is(load(0, 0), 5), is(load(1, 0), 6), fails(drain(0, 1), api.ErrArg), ok(drain(0, 0)), is(load(1, 0), 5)},
		"no such place":  {ok(put(0, 0, 5)), fails(drain(0, 1), api.ErrArg), fails(drain(0, -1), api.ErrArg), fails(drain(1, 0), api.ErrArg), fails(drain(0, math.MaxInt), api.ErrArg), fails(drain(0, math.MinInt), api.ErrArg), fails(drain(0, 1<<32), api.ErrArg)},
		"no such hart":   {ok(put(0, 0, 5)), fails(drain(2, 0), api.ErrArg), fails(drain(-1, 0), api.ErrArg), fails(drain(math.MinInt, 0), api.ErrArg)},
	} {
		play(t, name, 2, 3, steps)
	}
}

// S3: all of a hart's are drained, the first one first.
func TestFlush(t *testing.T) {
	for name, steps := range map[string][]step{
		"none":      {ok(flush(0)), ok(flush(1))},
		"in order":  {ok(put(0, 0, 5)), ok(put(0, 1, 6)), ok(put(0, 0, 7)), ok(flush(0)), is(load(1, 0), 7), is(load(1, 1), 6), fails(drain(0, 0), api.ErrArg)},
		"its own":   {ok(put(0, 0, 5)), ok(put(1, 1, 6)), ok(flush(0)), is(load(1, 1), 6), is(load(0, 1), 0), ok(flush(1)), is(load(0, 1), 6)},
		"eight":     append(full(1, 3), ok(flush(1)), is(load(0, 0), 6), is(load(0, 1), 7), is(load(0, 2), 5)),
		"no hart":   {fails(flush(2), api.ErrArg), fails(flush(-1), api.ErrArg), fails(flush(math.MaxInt), api.ErrArg), fails(flush(math.MinInt), api.ErrArg)},
		"some left": {ok(put(0, 0, 5)), ok(put(0, 1, 6)), ok(put(0, 0, 7)), ok(drain(0, 1)), ok(flush(0)), is(load(1, 0), 7)},
	} {
		play(t, name, 2, 3, steps)
	}
	if m := after(t, 1, 0, flush(0)); !isSame(m, after(t, 1, 0)) {
		t.Errorf("no words: %v", m)
	}
}

// S1 to S4: the last hart and the last word of the most that there may be.
func TestLast(t *testing.T) {
	play(t, "the most", 4, 4096, []step{
		ok(put(3, 4095, 5)), is(load(3, 4095), 5), is(load(0, 4095), 0), ok(drain(3, 0)), is(load(0, 4095), 5), is(load(0, 4094), 0),
		is(reserve(3, 4095), 5), is(change(0, 4094, api.OpAdd, 8), 0), stores(conditional(3, 4095, 6), true), is(change(0, 4095, api.OpAdd, 7), 6), ok(put(3, 0, 9)), ok(flush(3)), is(load(2, 0), 9),
		fails(load(3, 4096), api.ErrArg), fails(put(3, 4096, 1), api.ErrArg), fails(reserve(3, 4096), api.ErrArg), fails(conditional(3, 4096, 1), api.ErrArg), fails(change(3, 4096, 0, 1), api.ErrArg), fails(flush(4), api.ErrArg),
	})
}

// S3, S4: what goes to memory ends what other harts have reserved of that word, and nothing else.
func TestReservedEnds(t *testing.T) {
	held := []act{reserve(0, 1), reserve(1, 1), reserve(2, 2), reserve(3, 1)}
	for name, x := range map[string]struct {
		acts []act
		want []int
	}{
		"held":             {nil, []int{1, 1, 2, 1}},
		"pending":          {[]act{put(0, 1, 5), put(2, 1, 5)}, []int{1, 1, 2, 1}},
		"drained":          {[]act{put(0, 1, 5), drain(0, 0)}, []int{1, -1, 2, -1}},
		"the same number":  {[]act{put(2, 1, 0), drain(2, 0)}, []int{-1, -1, 2, -1}},
		"another word":     {[]act{put(0, 0, 5), drain(0, 0)}, []int{1, 1, 2, 1}},
		"flushed":          {[]act{put(0, 2, 5), put(0, 1, 5), flush(0)}, []int{1, -1, -1, -1}},
		"flushed, nothing": {[]act{flush(0), flush(1)}, []int{1, 1, 2, 1}},
		"the one drained":  {[]act{put(3, 1, 5), put(3, 2, 6), drain(3, 1)}, []int{1, 1, -1, 1}},
		"conditional":      {[]act{conditional(1, 1, 9)}, []int{-1, -1, 2, -1}},
		"not its word":     {[]act{conditional(1, 2, 9)}, []int{1, -1, 2, 1}},
		"changed":          {[]act{change(3, 1, 0, 4)}, []int{-1, -1, 2, 1}},
		"changed none":     {[]act{change(3, 0, 0, 4)}, []int{1, 1, 2, 1}},
		"reserved":         {[]act{reserve(2, 1), reserve(0, 0)}, []int{0, 1, 1, 1}},
		"loaded":           {[]act{load(0, 1), load(1, 1), load(2, 0)}, []int{1, 1, 2, 1}},
		"reserved again":   {[]act{put(0, 1, 5), drain(0, 0), reserve(1, 1)}, []int{1, 1, 2, -1}},
	} {
		m := after(t, 4, 3, append(slices.Clone(held), x.acts...)...)
		if !slices.Equal(m.Reserved, x.want) {
			t.Errorf("%s: %v, not %v", name, m.Reserved, x.want)
		}
	}
}

// S4: who stores, if it is reserved.
func TestConditional(t *testing.T) {
	for name, steps := range map[string][]step{
		"not reserved":    {stores(conditional(0, 1, 5), false), is(load(0, 1), 0)},
		"reserved":        {is(reserve(0, 1), 0), stores(conditional(0, 1, 5), true), is(load(1, 1), 5), is(reserve(0, 1), 5)},
		"once":            {is(reserve(0, 1), 0), stores(conditional(0, 1, 5), true), stores(conditional(0, 1, 6), false), is(load(0, 1), 5)},
		"another word":    {is(reserve(0, 1), 0), stores(conditional(0, 2, 5), false), stores(conditional(0, 1, 6), false), is(load(0, 1), 0), is(load(0, 2), 0)},
		"word 0":          {stores(conditional(0, 0, 5), false), is(reserve(0, 0), 0), stores(conditional(0, 0, 5), true), is(load(1, 0), 5)},
		"the last one":    {is(reserve(0, 1), 0), is(reserve(0, 2), 0), stores(conditional(0, 1, 5), false), is(reserve(0, 1), 0), is(reserve(0, 2), 0), stores(conditional(0, 2, 5), true)},
		"the other was":   {is(reserve(0, 1), 0), is(reserve(1, 1), 0), stores(conditional(1, 1, 5), true), stores(conditional(0, 1, 6), false), is(load(0, 1), 5)},
		"both fail":       {is(reserve(0, 1), 0), is(reserve(1, 1), 0), stores(conditional(1, 2, 5), false), stores(conditional(0, 1, 6), true)},
		"one was drained": {is(reserve(0, 1), 0), ok(put(1, 1, 5)), ok(put(1, 1, 0)), ok(flush(1)), stores(conditional(0, 1, 6), false)},
		"one is pending":  {is(reserve(0, 1), 0), ok(put(1, 1, 5)), stores(conditional(0, 1, 6), true), ok(flush(1)), is(load(0, 1), 5)},
		"its own":         {is(reserve(0, 1), 0), ok(put(0, 1, 5)), ok(drain(0, 0)), stores(conditional(0, 1, 6), true), is(load(1, 1), 6)},
		"its own flush":   {is(reserve(0, 1), 0), ok(put(0, 1, 5)), ok(flush(0)), stores(conditional(0, 1, 6), true), is(load(1, 1), 6)},
		"its own change":  {is(reserve(0, 1), 0), is(change(0, 1, api.OpAdd, 3), 0), stores(conditional(0, 1, 6), true), is(load(1, 1), 6)},
		"another changed": {is(reserve(0, 1), 0), is(change(1, 1, api.OpAdd, 0), 0), stores(conditional(0, 1, 6), false), is(load(1, 1), 0)},
		"another word's":  {is(reserve(0, 1), 0), is(change(1, 2, api.OpAdd, 1), 0), stores(conditional(0, 1, 6), true)},
		"cut":             {is(reserve(0, 1), 0), stores(conditional(0, 1, 1<<31), true), is(load(1, 1), -1<<31), is(reserve(1, 1), -1<<31), stores(conditional(1, 1, 1<<32+7), true), is(reserve(0, 1), 7)},
		"busy":            {is(reserve(0, 1), 0), ok(put(0, 2, 5)), fails(conditional(0, 1, 6), api.ErrBusy), fails(conditional(0, 2, 6), api.ErrBusy), ok(flush(0)), stores(conditional(0, 1, 6), true)},
		"not busy":        {ok(put(1, 2, 5)), is(reserve(0, 2), 0), stores(conditional(0, 2, 6), true), is(load(1, 2), 5), is(load(0, 2), 6)},
		"no hart":         {fails(conditional(2, 0, 1), api.ErrArg), fails(conditional(-1, 0, 1), api.ErrArg)},
		"no word":         {fails(conditional(0, 3, 1), api.ErrArg), fails(conditional(0, -1, 1), api.ErrArg), is(reserve(0, 2), 0), fails(conditional(0, -1, 1), api.ErrArg), fails(conditional(0, math.MinInt, 1), api.ErrArg), stores(conditional(0, 2, 1), true)},
	} {
		play(t, name, 2, 3, steps)
	}
}

// S4: what is reserved, and what that tells.
func TestReserve(t *testing.T) {
	for name, steps := range map[string][]step{
		"its word":  {ok(put(1, 2, 5)), is(reserve(0, 2), 0), ok(flush(1)), is(reserve(0, 2), 5), is(reserve(1, 2), 5), is(reserve(1, 0), 0)},
		"busy":      {ok(put(0, 2, 5)), fails(reserve(0, 2), api.ErrBusy), fails(reserve(0, 0), api.ErrBusy), is(reserve(1, 2), 0), ok(drain(0, 0)), is(reserve(0, 2), 5)},
		"no hart":   {fails(reserve(2, 0), api.ErrArg), fails(reserve(-1, 0), api.ErrArg), fails(reserve(math.MaxInt, 0), api.ErrArg)},
		"no word":   {fails(reserve(0, 3), api.ErrArg), fails(reserve(0, -1), api.ErrArg), fails(reserve(0, math.MinInt), api.ErrArg)},
		"arg first": {ok(put(0, 0, 1)), fails(reserve(0, 3), api.ErrArg), fails(reserve(0, -1), api.ErrArg), fails(reserve(0, 0), api.ErrBusy)},
	} {
		play(t, name, 2, 3, steps)
	}
}

// S4: what a word becomes, by each operator.
func TestChange(t *testing.T) {
	for _, op := range allOps {
		for _, a := range someNumbers {
			for _, n := range someNumbers {
				m := after(t, 2, 2, change(1, 1, 0, a))
				old, out, err := store.Change(m, 0, 1, op, n)
				if want, _ := made(op, cut(a), n); old != cut(a) || err != api.OK || !slices.Equal(out.Words, []int{0, want}) {
					t.Fatalf("op %d of %d and %d: %d, %v, %v, not %d", op, a, n, old, out, err, want)
				}
			}
		}
	}
	for name, steps := range map[string][]step{
		"adds":      {is(change(0, 1, api.OpAdd, 5), 0), is(change(1, 1, api.OpSub, 7), 5), is(load(0, 1), -2), is(load(0, 0), 0)},
		"swaps":     {is(change(0, 1, 0, 5), 0), is(change(1, 1, 0, 1<<32-1), 5), is(change(0, 1, 0, 3), -1), is(load(1, 1), 3)},
		"busy":      {ok(put(0, 1, 5)), fails(change(0, 1, 0, 1), api.ErrBusy), fails(change(0, 0, 1, 1), api.ErrBusy), is(change(1, 1, 0, 2), 0), ok(flush(0)), is(change(0, 1, 0, 7), 5)},
		"no hart":   {fails(change(2, 0, 0, 1), api.ErrArg), fails(change(-1, 0, 0, 1), api.ErrArg)},
		"no word":   {fails(change(0, 3, 0, 1), api.ErrArg), fails(change(0, -1, 0, 1), api.ErrArg)},
		"arg first": {ok(put(0, 0, 1)), fails(change(0, 3, 0, 1), api.ErrArg), fails(change(0, 0, 15, 1), api.ErrArg), fails(change(0, 0, -1, 1), api.ErrArg), fails(change(0, 0, 0, 1), api.ErrBusy)},
	} {
		play(t, name, 2, 3, steps)
	}
}

// S4: an operator that is none of two.
func TestNoOperator(t *testing.T) {
	for _, op := range noOps {
		play(t, "operator", 2, 2, []step{fails(change(0, 0, op, 1), api.ErrArg), ok(put(0, 0, 1)), fails(change(0, 0, op, 1), api.ErrArg), fails(change(2, 0, op, 1), api.ErrArg)})
	}
}

// someMemories are such as calls told.
func someMemories(t *testing.T) []api.Memory {
	l := []api.Memory{after(t, 1, 0), after(t, 1, 1), after(t, 2, 0), after(t, 2, 1), after(t, 1, 2), after(t, 2, 2)}
	for _, acts := range [][]act{
		{put(0, 0, 1)}, {put(0, 0, 2)}, {put(0, 1, 1)}, {put(1, 0, 1)}, {put(0, 0, 1), put(0, 1, 1)}, {put(0, 1, 1), put(0, 0, 1)}, {put(0, 0, 0)},
		{put(0, 0, 1), flush(0)}, {put(0, 0, 2), flush(0)}, {put(0, 1, 1), flush(0)}, {reserve(0, 0)}, {reserve(0, 1)}, {reserve(1, 0)}, {reserve(0, 0), reserve(1, 0)},
	} {
		l = append(l, after(t, 2, 2, acts...))
	}
	c := &chance{rand.New(rand.NewSource(60))}
	for range 60 {
		m, p := begun(t, 1+c.Intn(4), c.Intn(5))
		for range c.Intn(30) {
			_, m, p = goOn(t, m, p, c.act(p))
		}
		l = append(l, m)
	}
	return l
}

// S5: two are the same, if all of both is.
func TestSame(t *testing.T) {
	l := append(someMemories(t), api.Memory{})
	same, unlike := 0, 0
	for _, a := range l {
		for _, b := range l {
			want := isSame(a, b) && len(a.Pending) == len(b.Pending)
			if store.Same(a, b) != want {
				t.Errorf("%v and %v: %v", a, b, !want)
			}
			if want {
				same++
			} else {
				unlike++
			}
		}
	}
	if same <= len(l) || unlike < 1000 {
		t.Errorf("%d the same, %d unlike", same, unlike)
	}
}

// S5: one thing that is another one, of each that there is; an empty list is the same as none.
func TestSameByOne(t *testing.T) {
	with := func(change func(*api.Memory)) api.Memory {
		m := api.Memory{Words: []int{3, 4}, Pending: [][]api.Entry{{{At: 0, N: 5}, {At: 1, N: 6}}, {}, {{At: 1, N: 7}}}, Reserved: []int{-1, 1, 0}}
		change(&m)
		return m
	}
	a := with(func(*api.Memory) {})
	for name, change := range map[string]func(*api.Memory){
		"word 0":          func(m *api.Memory) { m.Words[0]++ },
		"word 1":          func(m *api.Memory) { m.Words[1]++ },
		"a word less":     func(m *api.Memory) { m.Words = m.Words[:1] },
		"a word more":     func(m *api.Memory) { m.Words = append(m.Words, 0) },
		"no words":        func(m *api.Memory) { m.Words = nil },
		"where":           func(m *api.Memory) { m.Pending[0][1].At = 0 },
		"what":            func(m *api.Memory) { m.Pending[2][0].N = 6 },
		"one less":        func(m *api.Memory) { m.Pending[0] = m.Pending[0][:1] },
		"one more":        func(m *api.Memory) { m.Pending[1] = []api.Entry{{}} },
		"other order":     func(m *api.Memory) { slices.Reverse(m.Pending[0]) },
		"other harts":     func(m *api.Memory) { slices.Reverse(m.Pending) },
		"a hart less":     func(m *api.Memory) { m.Pending = m.Pending[:2] },
		"a hart more":     func(m *api.Memory) { m.Pending = append(m.Pending, nil) },
		"no harts":        func(m *api.Memory) { m.Pending = nil },
		"reserved 0":      func(m *api.Memory) { m.Reserved[0] = 0 },
		"reserved 2":      func(m *api.Memory) { m.Reserved[2] = 1 },
		"one less is":     func(m *api.Memory) { m.Reserved = m.Reserved[:2] },
		"one more is":     func(m *api.Memory) { m.Reserved = append(m.Reserved, -1) },
		"nothing of both": func(m *api.Memory) { *m = api.Memory{} },
	} {
		if b := with(change); store.Same(a, b) || store.Same(b, a) {
			t.Errorf("%s: %v and %v", name, a, b)
		}
	}
	if b := with(func(m *api.Memory) { m.Pending[1] = nil }); !store.Same(a, b) || !store.Same(b, a) || !store.Same(a, a) {
		t.Errorf("%v and %v", a, b)
	}
	if !store.Same(api.Memory{}, api.Memory{Words: []int{}, Pending: [][]api.Entry{}, Reserved: []int{}}) {
		t.Error("empty ones")
	}
}

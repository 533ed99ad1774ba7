package store_test

import (
	"math"
	"math/rand"
	"slices"
	"strconv"
	"strings"
	"testing"

	"headstock/api"
	"headstock/store"
)

// What the chapter's words say, written out here by themselves: a memory is told by all that was done to it, from its beginning on.

// act is one thing done to a memory: 'l' a load, 's' a store, 'd' one is drained, 'f' all are, 'r' a word is reserved, 'c' stored if it is reserved, 'x' changed.
type act struct {
	do       byte
	hart, at int // at: of 'd' which one
	op, n    int
}

func load(hart, at int) act           { return act{do: 'l', hart: hart, at: at} }
func put(hart, at, n int) act         { return act{do: 's', hart: hart, at: at, n: n} }
func drain(hart, which int) act       { return act{do: 'd', hart: hart, at: which} }
func flush(hart int) act              { return act{do: 'f', hart: hart} }
func reserve(hart, at int) act        { return act{do: 'r', hart: hart, at: at} }
func conditional(hart, at, n int) act { return act{do: 'c', hart: hart, at: at, n: n} }
func change(hart, at, op, n int) act  { return act{'x', hart, at, op, n} }

func (x act) String() string {
	s := string(x.do)
	for _, n := range []int{x.hart, x.at, x.op, x.n} {
		s += " " + strconv.Itoa(n)
	}
	return s
}

// told is what an act told beside a memory.
type told struct {
	n   int
	yes bool
	err api.Errno
}

// done does an act to a memory.
func done(m api.Memory, x act) (told, api.Memory) {
	var r told
	var out api.Memory
	switch x.do {
	case 'l':
		r.n, r.err = store.Load(m, x.hart, x.at)
		if r.err == api.OK {
			out = m
		}
	case 's':
		out, r.err = store.Store(m, x.hart, x.at, x.n)
	case 'd':
		out, r.err = store.Drain(m, x.hart, x.at)
	case 'f':
		out, r.err = store.Flush(m, x.hart)
	case 'r':
		r.n, out, r.err = store.Reserve(m, x.hart, x.at)
	case 'c':
		r.yes, out, r.err = store.Conditional(m, x.hart, x.at, x.n)
	case 'x':
		r.n, out, r.err = store.Change(m, x.hart, x.at, x.op, x.n)
	}
	return r, out
}

// What has come about: an issued store, by its hart; one that came to memory (the issued one, if any, is then no more pending); a word that is reserved from then on; and that none is.
const (
	isIssued = iota
	isThere
	isReserved
	isFree
)

type event struct {
	kind, hart, at, n int
	of                int // the event by which what is there was issued; -1: it was never pending
}

// past is all that has come about in a memory of so many harts and words.
type past struct {
	harts, words int
	events       []event
	acts         []string
}

func (p past) String() string { return strings.Join(p.acts, ", ") }

func (p past) isHart(hart int) bool { return 0 <= hart && hart < p.harts }
func (p past) isWord(at int) bool   { return 0 <= at && at < p.words }

// pending are the events by which a hart's pending stores were issued.
func (p past) pending(hart int) []int {
	var l []int
	for i, e := range p.events {
		isGone := slices.ContainsFunc(p.events[i:], func(x event) bool { return x.kind == isThere && x.of == i })
		if e.kind == isIssued && e.hart == hart && !isGone {
			l = append(l, i)
		}
	}
	return l
}

// word is what came there last.
func (p past) word(at int) int {
	n := 0
	for _, e := range p.events {
		if e.kind == isThere && e.at == at {
			n = e.n
		}
	}
	return n
}

// reserved looks for what a hart reserved last, and whether anything ended that since.
func (p past) reserved(hart int) int {
	for i := len(p.events) - 1; i >= 0; i-- {
		e := p.events[i]
		if e.hart != hart || e.kind != isReserved && e.kind != isFree {
			continue
		}
		isLost := slices.ContainsFunc(p.events[i:], func(x event) bool { return x.kind == isThere && x.at == e.at && x.hart != hart })
		if e.kind == isFree || isLost {
			return -1
		}
		return e.at
	}
	return -1
}

// loaded is what a hart loads.
func (p past) loaded(hart, at int) int {
	n := p.word(at)
	for _, i := range p.pending(hart) {
		if p.events[i].at == at {
			n = p.events[i].n
		}
	}
	return n
}

// cut is a number's lowest 32 bits, with their sign.
func cut(n int) int {
	const all = 1 << 32
	n = (n%all + all) % all
	if n >= all/2 {
		return n - all
	}
	return n
}

// made is what an operator of two makes of numbers of 32 bits, or of 0 the second one; false: there is no such operator.
func made(op, a, b int) (int, bool) {
	b = cut(b)
	is := func(so bool) int {
		if so {
			return 1
		}
		return 0
	}
	n := 0
	switch op {
	case 0:
		n = b
	case api.OpAdd:
		n = a + b
	case api.OpSub:
		n = a - b
	case api.OpMul:
		n = a * b
	case api.OpDiv:
		if n = -1; b != 0 {
			n = a / b
		}
	case api.OpRem:
		if n = a; b != 0 {
			n = a % b
		}
	case api.OpAnd:
		n = a & b
	case api.OpOr:
		n = a | b
	case api.OpXor:
		n = a ^ b
	case api.OpShl:
		n = a << (b & 31)
	case api.OpShr:
		n = a >> (b & 31)
	case api.OpLt:
		n = is(a < b)
	case api.OpLess:
		n = is(uint32(a) < uint32(b))
	case api.OpEq:
		n = is(a == b)
	case api.OpNe:
		n = is(a != b)
	default:
		return 0, false
	}
	return cut(n), true
}

// with is the past and one event more.
func (p past) with(e event) past {
	p.events = append(slices.Clone(p.events), e)
	return p
}

// drained is the past in which one more came to memory.
func (p past) drained(i int) past {
	e := p.events[i]
	return p.with(event{isThere, e.hart, e.at, e.n, i})
}

// isAhead tells whether one to the same word is pending ahead of this.
func (p past) isAhead(hart, which int) bool {
	l := p.pending(hart)
	return slices.ContainsFunc(l[:which], func(i int) bool { return p.events[i].at == p.events[l[which]].at })
}

// wantErr is what is wrong with an act, in its order.
func (p past) wantErr(x act) api.Errno {
	_, isOp := made(x.op, 0, 0)
	busy := len(p.pending(x.hart))
	switch {
	case !p.isHart(x.hart):
		return api.ErrArg
	case x.do == 'd' && (x.at < 0 || x.at >= busy):
		return api.ErrArg
	case x.do == 'd' && p.isAhead(x.hart, x.at):
		return api.ErrAhead
	case x.do == 'd' || x.do == 'f':
		return api.OK
	case !p.isWord(x.at) || x.do == 'x' && !isOp:
		return api.ErrArg
	case x.do == 's' && busy == 8:
		return api.ErrFull
	case strings.ContainsRune("rcx", rune(x.do)) && busy > 0:
		return api.ErrBusy
	}
	return api.OK
}

// want is what an act tells, and the past behind it; a past that is the same, if the act may not be.
func (p past) want(x act) (told, past) {
	if err := p.wantErr(x); err != api.OK {
		return told{err: err}, p
	}
	behind := p
	behind.acts = append(slices.Clone(p.acts), x.String())
	switch x.do {
	case 'l':
		return told{n: p.loaded(x.hart, x.at)}, behind
	case 's':
		return told{}, behind.with(event{isIssued, x.hart, x.at, cut(x.n), -1})
	case 'd':
		return told{}, behind.drained(p.pending(x.hart)[x.at])
	case 'f':
		for _, i := range p.pending(x.hart) {
			behind = behind.drained(i)
		}
		return told{}, behind
	case 'r':
		return told{n: p.word(x.at)}, behind.with(event{isReserved, x.hart, x.at, 0, -1})
	case 'c':
		yes := p.reserved(x.hart) == x.at
		if yes {
			behind = behind.with(event{isThere, x.hart, x.at, cut(x.n), -1})
		}
		return told{yes: yes}, behind.with(event{isFree, x.hart, 0, 0, -1})
	}
	n, _ := made(x.op, p.word(x.at), x.n)
	return told{n: p.word(x.at)}, behind.with(event{isThere, x.hart, x.at, n, -1})
}

// memory is what that past tells in all.
func (p past) memory() api.Memory {
	m := api.Memory{}
	for at := range p.words {
		m.Words = append(m.Words, p.word(at))
	}
	for hart := range p.harts {
		var l []api.Entry
		for _, i := range p.pending(hart) {
			l = append(l, api.Entry{At: p.events[i].at, N: p.events[i].n})
		}
		m.Pending = append(m.Pending, l)
		m.Reserved = append(m.Reserved, p.reserved(hart))
	}
	return m
}

// isSame tells whether all of both is the same, by another way than the package's.
func isSame(a, b api.Memory) bool { return text(a) == text(b) }

func text(m api.Memory) string {
	s := numbers(m.Words) + "|" + numbers(m.Reserved)
	for _, l := range m.Pending {
		s += "|"
		for _, e := range l {
			s += numbers([]int{e.At, e.N}) + ";"
		}
	}
	return s
}

func numbers(l []int) string {
	var s []string
	for _, n := range l {
		s = append(s, strconv.Itoa(n))
	}
	return strings.Join(s, " ")
}

// isEmpty tells whether a memory is the one that stands beside an error.
func isEmpty(m api.Memory) bool {
	return len(m.Words) == 0 && len(m.Pending) == 0 && len(m.Reserved) == 0
}

// begun is a memory of so many, and its past.
func begun(t *testing.T, harts, words int) (api.Memory, past) {
	t.Helper()
	m, err := store.New(harts, words)
	p := past{harts: harts, words: words}
	if err != api.OK || !isSame(m, p.memory()) {
		t.Fatalf("New(%d, %d): %v, %v", harts, words, m, err)
	}
	return m, p
}

// goOn does one act, holds what it told against the words, and is the memory behind it: if the act may not be, the one ahead of it.
func goOn(t *testing.T, m api.Memory, p past, x act) (told, api.Memory, past) {
	t.Helper()
	got, out := done(m, x)
	want, behind := p.want(x)
	if got != want {
		t.Fatalf("%v: %v, not %v, behind %v", x, got, want, p)
	}
	if want.err != api.OK {
		if !isEmpty(out) {
			t.Fatalf("%v: %v beside an error, behind %v", x, out, p)
		}
		return got, m, p
	}
	if !isSame(out, behind.memory()) {
		t.Fatalf("%v, not %v: %v", out, behind.memory(), behind)
	}
	return got, out, behind
}

// after is a memory to which all of that was done, each of which may be.
func after(t *testing.T, harts, words int, acts ...act) api.Memory {
	t.Helper()
	m, p := begun(t, harts, words)
	for _, x := range acts {
		var r told
		if r, m, p = goOn(t, m, p, x); r.err != api.OK {
			t.Fatalf("%v: %v, behind %v", x, r, p)
		}
	}
	return m
}

// allOps are 0 and the operators of two.
var allOps = []int{0, 1, 2, 3, 4, 5, 6, 7, 8, 9, 10, 11, 12, 13, 14}

// noOps are such as are neither.
var noOps = []int{-1, -3, 15, 16, 17, 18, 19, 64, 255, 256, 257, 1 << 32, 1<<32 + 1, -1 << 32, math.MaxInt, math.MinInt}

// someNumbers are some that are cut, and some that are not.
var someNumbers = []int{0, 1, 2, 3, 31, 32, 33, -1, -2, 255, 256, 1<<31 - 1, 1 << 31, 1<<31 + 1, -1 << 31, -1<<31 - 1, 1<<32 - 1, 1 << 32, 1<<32 + 1, 0x5555_5555, 0xaaaa_aaaa, 5<<40 + 7, math.MaxInt, math.MinInt}

// chance is things to do, by chance.
type chance struct{ *rand.Rand }

// number is some number: often a small one, or one at an edge.
func (c *chance) number() int {
	switch c.Intn(6) {
	case 0:
		return someNumbers[c.Intn(len(someNumbers))]
	case 1:
		return int(c.Uint64())
	}
	return c.Intn(5)
}

// place is one below n, or rarely one that is none.
func (c *chance) place(n int) int {
	if n == 0 || c.Intn(30) == 0 {
		return []int{-1, n, n + 1, math.MaxInt, math.MinInt, 1 << 32}[c.Intn(6)]
	}
	return c.Intn(n)
}

func (c *chance) op() int {
	if c.Intn(15) == 0 {
		return noOps[c.Intn(len(noOps))]
	}
	return allOps[c.Intn(len(allOps))]
}

// act is one to be done behind that past.
func (c *chance) act(p past) act {
	hart, at := c.place(p.harts), c.place(p.words)
	switch c.Intn(12) {
	case 0, 1:
		return load(hart, at)
	case 2, 3, 4, 5:
		return put(hart, at, c.number())
	case 6:
		return drain(hart, c.place(8))
	case 7:
		return drain(hart, c.place(len(p.pending(hart))))
	case 8:
		return flush(hart)
	case 9:
		return reserve(hart, at)
	case 10:
		return conditional(hart, at, c.number())
	}
	return change(hart, at, c.op(), c.number())
}

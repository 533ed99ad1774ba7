package machine_test

import (
	"math"
	"slices"
	"strings"
	"testing"

	"headstock/api"
	"headstock/device"
	"headstock/hart"
	"headstock/machine"
	"headstock/store"
)

// lui and lw, sw as the chapter's examples have them.
func lui(d, n int) api.Instr     { return ins(api.InLui, d, 0, 0, n) }
func addi(d, a, n int) api.Instr { return ins(api.InAddi, d, a, 0, n) }
func lw(d, a, n int) api.Instr   { return ins(api.InLw, d, a, 0, n) }
func sw(a, b, n int) api.Instr   { return ins(api.InSw, 0, a, b, n) }
func jal(d, n int) api.Instr     { return ins(api.InJal, d, 0, 0, n) }

func csrrw(d, a, n int) api.Instr { return ins(api.InCsrrw, d, a, 0, n) }
func csrrs(d, a, n int) api.Instr { return ins(api.InCsrrs, d, a, 0, n) }
func csrrc(d, a, n int) api.Instr { return ins(api.InCsrrc, d, a, 0, n) }

var (
	fence = ins(api.InFence, 0, 0, 0, 0)
	ecall = ins(api.InEcall, 0, 0, 0, 0)
	mret  = ins(api.InMret, 0, 0, 0, 0)
	wfi   = ins(api.InWfi, 0, 0, 0, 0)
)

// The chapter's example.
func TestExample(t *testing.T) {
	m := behind(t, some(t, 1, lui(5, 0x10000), sw(5, 5, 0)), steps(0, 2)...)
	if !slices.Equal(m.Trace, []api.Access{{Hart: 0, Device: 0, Reg: 0, Write: true, N: 0x10000000}}) {
		t.Errorf("%+v", m.Trace)
	}
}

// C1: what New tells, each part by itself.
func TestNew(t *testing.T) {
	words := []int{0, 1, 0x13, 1<<32 - 1}
	symbols := []api.Symbol{{Name: "a", Place: 0}, {Name: "b", Place: 16}}
	lines := []api.Line{{Hart: 0, Priority: 7, Raised: true}, {Hart: 0, Priority: 0}, {Hart: 0, Priority: 3, Raised: true}}
	for harts := 1; harts <= 4; harts++ {
		for _, memory := range []int{0, 1, 5, 4096} {
			got := made(t, harts, api.Image{Words: words, Memory: memory, Symbols: symbols}, []int{3, 1, 2, 1}, lines)
			want := api.Machine{
				Words: words, Harts: make([]api.Hart, harts), Ends: make([]int, harts),
				Memory:  api.Memory{Words: make([]int, memory), Pending: make([][]api.Entry, harts), Reserved: slices.Repeat([]int{-1}, harts)},
				Devices: []api.State{{Kind: 3}, {Kind: 1}, {Kind: 2}, {Kind: 1}},
				Lines:   []api.Line{{Hart: 0, Priority: 7}, {Hart: 0, Priority: 0}, {Hart: 0, Priority: 3}},
			}
			if !isSame(got, want) {
				t.Errorf("%d harts, %d words: %s, not %s", harts, memory, text(got), text(want))
			}
		}
	}
	if got := made(t, 1, api.Image{}, nil, nil); !isSame(got, api.Machine{Harts: make([]api.Hart, 1), Ends: []int{0}, Memory: api.Memory{Pending: make([][]api.Entry, 1), Reserved: []int{-1}}}) {
		t.Errorf("nothing: %s", text(got))
	}
}

// C1: the edges of what may be, and what is beyond them.
func TestNewEdges(t *testing.T) {
	type given struct {
		harts int
		m     api.Image
		kinds []int
		lines []api.Line
	}
	right := given{2, api.Image{Words: []int{0x13}, Memory: 3}, []int{1, 2}, []api.Line{{Hart: 1, Priority: 1}}}
	harts := func(n int) given { g := right; g.harts, g.lines = n, nil; return g }
	words := func(l ...int) given { g := right; g.m.Words = l; return g }
	memory := func(n int) given { g := right; g.m.Memory = n; return g }
	symbols := func(l ...api.Symbol) given { g := right; g.m.Symbols = l; return g }
	kinds := func(l ...int) given { g := right; g.kinds = l; return g }
	lines := func(harts int, l ...api.Line) given { g := right; g.harts, g.lines = harts, l; return g }
	eight, nine := []int{1, 2, 3, 1, 2, 3, 1, 2}, []int{1, 2, 3, 1, 2, 3, 1, 2, 3}
	for name, x := range map[string]struct {
		given
		err api.Errno
	}{
		"right": {right, 0}, "1 hart": {harts(1), 0}, "4 harts": {harts(4), 0}, "0 harts": {harts(0), 1}, "5 harts": {harts(5), 1}, "-1 harts": {harts(-1), 1}, "many harts": {harts(math.MaxInt), 1}, "least harts": {harts(math.MinInt), 1}, "2^32 and 1 harts": {harts(1<<32 + 1), 1},
		"no words": {words(), 0}, "the greatest word": {words(1<<32-1, 0), 0}, "no word": {words(0, 1<<32), 1}, "below 0": {words(-1), 1}, "65536 words": {words(make([]int, 65536)...), 0}, "65537 words": {words(make([]int, 65537)...), 1},
		"no memory": {memory(0), 0}, "4096": {memory(4096), 0}, "4097": {memory(4097), 1}, "-1": {memory(-1), 1}, "most": {memory(math.MaxInt), 1},
		"symbols": {symbols(api.Symbol{Name: "a", Place: 4}, api.Symbol{Name: "b"}), 0}, "not rising": {symbols(api.Symbol{Name: "b"}, api.Symbol{Name: "a"}), 1}, "twice": {symbols(api.Symbol{Name: "b"}, api.Symbol{Name: "b"}), 1}, "no name": {symbols(api.Symbol{}), 1}, "a long name": {symbols(api.Symbol{Name: strings.Repeat("a", 41)}), 1}, "a far place": {symbols(api.Symbol{Name: "a", Place: 8}), 1}, "an odd place": {symbols(api.Symbol{Name: "a", Place: 2}), 1},
		"no kinds": {kinds(), 0}, "8 kinds": {kinds(eight...), 0}, "9 kinds": {kinds(nine...), 1}, "kind 0": {kinds(1, 0), 1}, "kind 4": {kinds(4, 1), 1}, "kind -1": {kinds(-1), 1}, "kind 2^32 and 1": {kinds(1<<32 + 1), 1},
		"no lines": {lines(1), 0}, "8 lines": {lines(2, make([]api.Line, 8)...), 0}, "9 lines": {lines(2, make([]api.Line, 9)...), 1},
		"the last hart": {lines(3, api.Line{Hart: 2, Priority: 7}), 0}, "one more": {lines(3, api.Line{Hart: 3, Priority: 7}), 1}, "hart -1": {lines(3, api.Line{Hart: -1}), 1}, "one more of 4": {lines(4, api.Line{Hart: 0}, api.Line{Hart: 4}), 1}, "a far hart": {lines(4, api.Line{Hart: math.MaxInt}), 1},
		"priority 0": {lines(1, api.Line{Priority: 0, Raised: true}), 0}, "priority 7": {lines(1, api.Line{}, api.Line{Priority: 7}), 0}, "priority 8": {lines(1, api.Line{}, api.Line{Priority: 8}), 1}, "priority -1": {lines(1, api.Line{Priority: -1}), 1}, "the least": {lines(1, api.Line{Priority: math.MinInt}), 1},
		"all wrong": {given{0, api.Image{Memory: -1}, []int{9}, []api.Line{{Hart: 9}}}, 1},
	} {
		m, err := machine.New(x.harts, x.m, x.kinds, x.lines)
		if err != x.err || err != api.OK && !isEmpty(m) || err == api.OK && (len(m.Harts) != x.harts || len(m.Words) != len(x.m.Words) || len(m.Devices) != len(x.kinds) || len(m.Lines) != len(x.lines)) {
			t.Errorf("%s: %d, %d harts", name, err, len(m.Harts))
		}
	}
}

// C2: a kind that there is not.
func TestNoKind(t *testing.T) {
	m := some(t, 2, wfi)
	for _, kind := range []int{0, 6, 7, 256 + 1, -1, 1<<32 + 1, -1<<32 + 1, math.MaxInt, math.MinInt} {
		fails(t, m, api.Choice{Kind: kind}, api.ErrArg)
		fails(t, m, api.Choice{Kind: kind, Hart: 1, Which: 1, N: 1}, api.ErrArg)
	}
	fails(t, api.Machine{}, api.Choice{}, api.ErrArg)
}

// C2: a hart, a line or a device that there is not; what is not named does not matter.
func TestNamed(t *testing.T) {
	m := behind(t, some(t, 3, lui(5, 0x20000), sw(5, 5, 0), csrrw(0, 5, api.CsrStatus)), append(append(steps(0, 2), steps(1, 2)...), steps(2, 2)...)...)
	for i := range m.Harts {
		// What some code would have written there.
		m.Harts[i].Status = 8
		m = behind(t, m, raise(i))
	}
	for n := -3; n < 12; n++ {
		for _, kind := range []int{api.ChoiceStep, api.ChoiceTake, api.ChoiceDrain} {
			if n < 0 || n > 2 {
				fails(t, m, api.Choice{Kind: kind, Hart: n}, api.ErrArg)
			} else {
				behind(t, m, api.Choice{Kind: kind, Hart: n})
			}
		}
		// There are as many lines as harts, and three devices.
		for _, kind := range []int{api.ChoiceRaise, api.ChoiceInput} {
			if n < 0 || n > 2 {
				fails(t, m, api.Choice{Kind: kind, Which: n}, api.ErrArg)
			} else {
				behind(t, m, api.Choice{Kind: kind, Which: n})
			}
		}
	}
	for _, n := range append([]int{-1, 3, 4, 8, 12345}, farNumbers...) {
		for _, c := range []api.Choice{step(n), take(n), drain(n, 0), raise(n), input(n, 1)} {
			if n != 0 && n != 1 && n != 2 {
				fails(t, m, c, api.ErrArg)
			}
			fails(t, api.Machine{}, c, api.ErrArg)
		}
		for _, c := range []api.Choice{{Kind: api.ChoiceStep, Hart: 1, Which: n, N: n}, {Kind: api.ChoiceTake, Hart: 1, Which: n, N: n}, {Kind: api.ChoiceDrain, Hart: 1, N: n}, {Kind: api.ChoiceRaise, Which: 1, Hart: n, N: n}, {Kind: api.ChoiceInput, Which: 1, Hart: n}} {
			bare := c
			bare.N = 0
			if c.Kind == api.ChoiceStep || c.Kind == api.ChoiceTake {
				bare.Which = 0
			}
			if c.Kind == api.ChoiceRaise || c.Kind == api.ChoiceInput {
				bare.Hart = 0
			}
			if got, plain := behind(t, m, c), behind(t, m, bare); !isSame(got, plain) {
				t.Errorf("%+v: %s, not %s", c, text(got), text(plain))
			}
		}
	}
}

// C2: where a hart's instruction stands, and where none does.
func TestPlace(t *testing.T) {
	for words := range 4 {
		l := slices.Repeat([]api.Instr{addi(1, 1, 1)}, words)
		for _, pc := range []int{-16, -12, -8, -4, -3, -2, -1, 0, 1, 2, 3, 4, 5, 6, 7, 8, 9, 10, 11, 12, 13, 15, 16, 20, 256, 1024, 1<<31 - 4, 1<<31 - 1, -1 << 31, -1<<31 + 4, 1 << 30, -1 << 30} {
			m := some(t, 2, l...)
			m.Harts[1].PC = pc
			got := behind(t, m, step(1))
			want := copyOf(m)
			if pc == 0 && words > 0 || pc == 4 && words > 1 || pc == 8 && words > 2 {
				want.Harts[1].PC, want.Harts[1].Regs[1] = pc+4, 1
			} else {
				want.Ends[1] = api.EndCode
			}
			if !isSame(got, want) {
				t.Errorf("%d of %d words: %s, not %s", pc, words, text(got), text(want))
			}
		}
	}
	// The last word of the most that there may be.
	m := made(t, 1, api.Image{Words: append(make([]int, 65535), coded(t, addi(1, 0, 7))...)}, nil, nil)
	m.Harts[0].PC = 4 * 65535
	got, err := machine.Do(m, step(0))
	if err != api.OK || got.Harts[0].Regs[1] != 7 || got.Harts[0].PC != 4*65536 || got.Ends[0] != api.EndNot {
		t.Errorf("the last word: %d, %+v, %d", err, got.Harts, got.Ends)
	}
	if got, err = machine.Do(got, step(0)); err != api.OK || got.Harts[0].PC != 4*65536 || got.Ends[0] != api.EndCode {
		t.Errorf("behind it: %d, %+v, %d", err, got.Harts, got.Ends)
	}
}

// C2: a word that is no instruction's, and one that goes to a control register that there is not, end the hart where it is.
func TestNoCode(t *testing.T) {
	bad := coded(t, csrrw(5, 6, 0x301), csrrs(5, 0, 0xf15), csrrc(5, 6, 0), csrrw(5, 6, 4095))
	for _, word := range append([]int{0, 1, 0xffffffff, 0x80000000, 0x12, 0x7f, 0x4013 << 12}, bad...) {
		m := made(t, 2, api.Image{Words: append(coded(t, addi(6, 0, 9)), word), Memory: 1}, nil, nil)
		m = behind(t, m, step(1))
		want := copyOf(m)
		want.Ends[1] = api.EndCode
		got := behind(t, m, step(1))
		if !isSame(got, want) {
			t.Errorf("%#x: %s, not %s", word, text(got), text(want))
		}
		fails(t, got, step(1), api.ErrEnded)
	}
}

// C2: what a hart that has ended may not do, and what may be done still; an error of what is not there comes first.
func TestEnded(t *testing.T) {
	for end, last := range map[int]api.Instr{api.EndCall: ecall, api.EndCode: csrrw(0, 0, 1), api.EndWhere: lw(1, 0, 0)} {
		m := some(t, 2, lui(5, 0x20000), sw(5, 5, 0), sw(5, 5, 4), last)
		m = behind(t, m, append(steps(1, 4), raise(1), raise(0))...)
		m.Harts[1].Status = 8
		if m.Ends[1] != end || m.Ends[0] != api.EndNot {
			t.Fatalf("%+v: ends %v", last, m.Ends)
		}
		if machine.First(m, 1) != 1 {
			t.Errorf("end %d: %d is first", end, machine.First(m, 1))
		}
		fails(t, m, step(1), api.ErrEnded)
		fails(t, m, take(1), api.ErrEnded)
		fails(t, m, step(2), api.ErrArg)
		fails(t, m, take(2), api.ErrArg)
		fails(t, m, drain(1, 2), api.ErrArg)
		got := behind(t, m, drain(1, 1), drain(1, 0), input(0, 65), step(0))
		if got.Memory.Words[0] != 0x20000000 || got.Memory.Words[1] != 0x20000000 || got.Ends[1] != end {
			t.Errorf("end %d: %s", end, text(got))
		}
		// Without an interrupt, too, it is that it has ended which is told.
		m.Lines[1].Raised = false
		fails(t, m, take(1), api.ErrEnded)
	}
}

// C2: id is the hart's number.
func TestHartsNumber(t *testing.T) {
	for harts := 1; harts <= 4; harts++ {
		m := some(t, harts, csrrs(7, 0, api.CsrHart))
		for id := range harts {
			if got := behind(t, m, step(id)); got.Harts[id].Regs[7] != id || got.Harts[id].PC != 4 {
				t.Errorf("hart %d of %d: %+v", id, harts, got.Harts[id])
			}
		}
	}
}

// C2: drains, by numbers that are known.
func TestDrain(t *testing.T) {
	m := some(t, 2, lui(5, 0x20000), addi(6, 0, 7), addi(7, 0, 8), sw(5, 6, 0), sw(5, 7, 4), sw(5, 7, 0))
	fails(t, m, drain(0, 0), api.ErrArg)
	m = behind(t, m, steps(1, 6)...)
	fails(t, m, drain(1, 2), api.ErrAhead)
	fails(t, m, drain(1, 3), api.ErrArg)
	fails(t, m, drain(1, -1), api.ErrArg)
	fails(t, m, drain(0, 0), api.ErrArg)
	fails(t, m, drain(2, 0), api.ErrArg)
	m = behind(t, m, drain(1, 1))
	if !slices.Equal(m.Memory.Words, []int{0, 8, 0, 0}) || !slices.Equal(m.Memory.Pending[1], []api.Entry{{At: 0, N: 7}, {At: 0, N: 8}}) {
		t.Errorf("%+v", m.Memory)
	}
	m = behind(t, m, drain(1, 0))
	if !slices.Equal(m.Memory.Words, []int{7, 8, 0, 0}) {
		t.Errorf("%+v", m.Memory)
	}
}

// C2: a line that is raised, once or twice, is raised, whoever has it; nothing else is changed.
func TestRaise(t *testing.T) {
	m := made(t, 2, api.Image{}, nil, []api.Line{{Hart: 1, Priority: 3}, {Hart: 0, Priority: 0}, {Hart: 1, Priority: 3}})
	for _, x := range []struct {
		which []int
		want  [3]bool
	}{{nil, [3]bool{}}, {[]int{0}, [3]bool{true}}, {[]int{1}, [3]bool{false, true}}, {[]int{2, 2}, [3]bool{2: true}}, {[]int{2, 0, 1}, [3]bool{true, true, true}}} {
		got, want := m, copyOf(m)
		for _, which := range x.which {
			got = behind(t, got, raise(which))
		}
		for i, raised := range x.want {
			want.Lines[i].Raised = raised
		}
		if !isSame(got, want) {
			t.Errorf("%v: %s", x.which, text(got))
		}
	}
}

// C2: what is handed to a device goes to that one alone, and raises no line.
func TestInput(t *testing.T) {
	m := made(t, 1, api.Image{}, []int{api.DeviceUart, api.DeviceGpio, api.DeviceTimer, api.DeviceUart}, []api.Line{{Priority: 7}})
	for i := range m.Devices {
		for _, n := range []int{0, 65, 256 + 65, -1, 1<<32 + 3, math.MaxInt, math.MinInt} {
			want := copyOf(m)
			want.Devices[i] = device.Input(device.New(m.Devices[i].Kind), n)
			if got := behind(t, m, input(i, n)); !isSame(got, want) {
				t.Errorf("%d to %d: %s", n, i, text(got))
			}
		}
	}
	m.Devices[0] = device.Write(m.Devices[0], 2, 1)
	if got := behind(t, m, input(0, 65)); !got.Devices[0].Raised || got.Lines[0].Raised {
		t.Errorf("raised: %s", text(got))
	}
}

// C2, C4: which interrupt is taken, and what the hart is then.
func TestTake(t *testing.T) {
	m := made(t, 2, api.Image{Words: coded(t, wfi, wfi)}, nil, []api.Line{{Hart: 1, Priority: 2}, {Hart: 1, Priority: 5}, {Hart: 0, Priority: 7}, {Hart: 1, Priority: 5}})
	m = behind(t, m, step(1), raise(0), raise(1), raise(2), raise(3))
	fails(t, m, take(0), api.ErrNone)
	fails(t, m, take(1), api.ErrNone)
	m.Harts[1].Status, m.Harts[1].Vector, m.Harts[1].Level, m.Harts[1].Scratch = 8, 64, 1, 77
	for _, line := range []int{1, 3, 0} {
		want := copyOf(m)
		h := &want.Harts[1]
		h.EPC, h.Cause, h.PC, h.Status = 4, -1<<31+line, 64, 128
		want.Lines[line].Raised = false
		got := behind(t, m, take(1))
		if !isSame(got, want) {
			t.Fatalf("line %d: %s, not %s", line, text(got), text(want))
		}
		fails(t, got, take(1), api.ErrNone)
		m.Lines[line].Raised = false
	}
	fails(t, m, take(1), api.ErrNone)
	fails(t, m, take(0), api.ErrNone)
	m.Harts[0].Status = 136
	if got := behind(t, m, take(0)); got.Harts[0].Cause != -1<<31+2 || got.Harts[0].PC != 0 || got.Harts[0].Status != 128 {
		t.Errorf("hart 0: %+v", got.Harts[0])
	}
}

// C2: the line that is taken is told by its place, also of the last one.
func TestCause(t *testing.T) {
	for line := range 8 {
		var lines []api.Line
		for i := range 8 {
			lines = append(lines, api.Line{Hart: 0, Priority: 1 + i%3})
		}
		m := made(t, 1, api.Image{}, nil, lines)
		m.Harts[0].Status = 8
		m = behind(t, m, raise(line), take(0))
		if m.Harts[0].Cause != -1<<31+line || m.Lines[line].Raised {
			t.Errorf("line %d: %+v", line, m.Harts[0])
		}
	}
}

// C4: of two lines, each priority against each level, whatever else keeps them out.
func TestFirst(t *testing.T) {
	for level := -1; level <= 8; level++ {
		for _, status := range []int{0, 8, 128, 136} {
			for k := range 8 * 8 * 4 * 4 {
				a, b, raised, to := k%8, k/8%8, k/64%4, k/256
				m := made(t, 2, api.Image{}, nil, []api.Line{{Hart: to % 2, Priority: a}, {Hart: to / 2, Priority: b}})
				m.Lines[0].Raised, m.Lines[1].Raised = raised%2 == 1, raised/2 == 1
				m.Harts[1].Status, m.Harts[1].Level = status, level
				is0, is1 := status&8 != 0 && a > level && raised%2 == 1 && to%2 == 1, status&8 != 0 && b > level && raised/2 == 1 && to/2 == 1
				want := -1
				switch {
				case is0 && (!is1 || a >= b):
					want = 0
				case is1:
					want = 1
				}
				if got := machine.First(m, 1); got != want || got != wantFirst(m, 1) {
					t.Fatalf("%+v, level %d, status %d: %d, not %d", m.Lines, level, status, got, want)
				}
				if got := machine.First(m, 0); got != -1 {
					t.Fatalf("a hart that lets none in: %d", got)
				}
			}
		}
	}
}

// C4: of many lines the first one of the greatest priority; of no hart none.
func TestFirstOfMany(t *testing.T) {
	for name, x := range map[string]struct {
		priorities []int
		want       int
	}{
		"none": {nil, -1}, "rising": {[]int{1, 2, 3, 4, 5, 6, 7, 7}, 6}, "falling": {[]int{7, 6, 5, 4, 3, 2, 1, 0}, 0}, "the same": {[]int{4, 4, 4, 4, 4, 4, 4, 4}, 0}, "between": {[]int{1, 3, 2, 6, 5, 6, 1, 6}, 3}, "nobody's": {[]int{0, 0, 0}, -1}, "the last": {[]int{0, 0, 0, 0, 0, 0, 0, 1}, 7},
	} {
		var lines []api.Line
		for _, priority := range x.priorities {
			lines = append(lines, api.Line{Hart: 2, Priority: priority})
		}
		m := made(t, 4, api.Image{}, nil, lines)
		for i := range m.Harts {
			m.Harts[i].Status = 8
		}
		if got := machine.First(m, 2); got != -1 {
			t.Errorf("%s: not raised: %d", name, got)
		}
		for i := range m.Lines {
			m = behind(t, m, raise(i))
		}
		for _, id := range append([]int{0, 1, 3, 4, 5}, farNumbers...) {
			if got := machine.First(m, id); got != -1 {
				t.Errorf("%s: hart %d: %d", name, id, got)
			}
		}
		if got := machine.First(m, 2); got != x.want {
			t.Errorf("%s: %d, not %d", name, got, x.want)
		}
	}
	if got := machine.First(api.Machine{}, 0); got != -1 {
		t.Errorf("of nothing: %d", got)
	}
}

// C5: Run passes over what may not be, and counts the rest.
func TestRun(t *testing.T) {
	m := some(t, 2, lui(5, 0x20000), sw(5, 5, 0), fence, ecall)
	for name, x := range map[string]struct {
		script []api.Choice
		done   int
	}{
		"nothing":          {nil, 0},
		"one":              {steps(0, 1), 1},
		"busy":             {steps(0, 4), 2},
		"drained":          {append(steps(0, 4), drain(0, 0), step(0), step(0), step(0)), 5},
		"what may not be":  {[]api.Choice{{}, {Kind: 9}, step(2), take(0), drain(0, 0), raise(2), input(3, 1)}, 0},
		"between":          {[]api.Choice{step(2), step(1), take(0), step(1), drain(1, 1), drain(1, 0), drain(1, 0), raise(1), {Kind: -1}}, 4},
		"both by turns":    {[]api.Choice{step(0), step(1), step(0), step(1), step(0), step(1), drain(0, 0), step(0), step(1), step(0)}, 7},
		"the end, and on":  {append(append(steps(0, 2), drain(0, 0)), steps(0, 9)...), 5},
		"what is not said": {[]api.Choice{{Kind: api.ChoiceStep, Hart: 1, Which: 9, N: 9}}, 1},
	} {
		got, done := machine.Run(m, x.script)
		want, count := m, 0
		for _, c := range x.script {
			next, err := does(t, want, c)
			if want = next; err == api.OK {
				count++
			}
		}
		if done != x.done || done != count || !isSame(got, want) {
			t.Errorf("%s: %d, not %d: %s, not %s", name, done, x.done, text(got), text(want))
		}
	}
	if got, done := machine.Run(api.Machine{}, []api.Choice{step(0), raise(0), {}}); done != 0 || !isEmpty(got) {
		t.Errorf("of nothing: %s, %d", text(got), done)
	}
}

// C5: one thing that is unlike, in each field.
func TestSame(t *testing.T) {
	full := func() api.Machine {
		m := some(t, 2, lui(5, 0x20000), sw(5, 5, 0), lui(6, 0x10000), sw(6, 5, 0))
		return behind(t, m, append(append(steps(0, 2), drain(0, 0), step(0), step(0), step(1), step(1)), raise(0), input(0, 65), input(0, 66))...)
	}
	if !machine.Same(full(), full()) || !machine.Same(api.Machine{}, api.Machine{}) || machine.Same(full(), api.Machine{}) || machine.Same(api.Machine{}, full()) {
		t.Error("the same are not, or what is not is")
	}
	empty := api.Machine{Words: []int{}, Harts: []api.Hart{}, Ends: []int{}, Memory: api.Memory{Words: []int{}, Pending: [][]api.Entry{}, Reserved: []int{}}, Devices: []api.State{}, Lines: []api.Line{}, Trace: []api.Access{}}
	if !machine.Same(api.Machine{}, empty) || !machine.Same(empty, api.Machine{}) {
		t.Error("lists without elements are not the same")
	}
	for i, other := range []func(m *api.Machine){
		func(m *api.Machine) { m.Words[1]++ }, func(m *api.Machine) { m.Words = m.Words[:3] }, func(m *api.Machine) { m.Words = nil },
		func(m *api.Machine) { m.Harts[1].Regs[31]++ }, func(m *api.Machine) { m.Harts[0].Regs[0]++ }, func(m *api.Machine) { m.Harts[1].PC++ }, func(m *api.Machine) { m.Harts[0].Status = 8 }, func(m *api.Machine) { m.Harts[0].Vector = 4 }, func(m *api.Machine) { m.Harts[0].Scratch = 4 }, func(m *api.Machine) { m.Harts[0].EPC = 4 }, func(m *api.Machine) { m.Harts[0].Cause = 4 }, func(m *api.Machine) { m.Harts[1].Level = 4 }, func(m *api.Machine) { m.Harts = m.Harts[:1] },
		func(m *api.Machine) { m.Ends[1] = 1 }, func(m *api.Machine) { m.Ends = append(m.Ends, 0) },
		func(m *api.Machine) { m.Memory.Words[3] = 1 }, func(m *api.Machine) { m.Memory.Words = m.Memory.Words[:3] }, func(m *api.Machine) { m.Memory.Pending[1][0].N++ }, func(m *api.Machine) { m.Memory.Pending[1][0].At++ }, func(m *api.Machine) { m.Memory.Pending[1] = nil }, func(m *api.Machine) { m.Memory.Pending[0] = []api.Entry{{}} }, func(m *api.Machine) { m.Memory.Reserved[0] = 0 },
		func(m *api.Machine) { m.Devices[2].Kind = 1 }, func(m *api.Machine) { m.Devices[0].Regs[2] = 1 }, func(m *api.Machine) { m.Devices[0].Queue[1]++ }, func(m *api.Machine) { m.Devices[0].Queue = m.Devices[0].Queue[:1] }, func(m *api.Machine) { m.Devices[0].Sent++ }, func(m *api.Machine) { m.Devices[1].Raised = true }, func(m *api.Machine) { m.Devices = m.Devices[:2] },
		func(m *api.Machine) { m.Lines[1].Hart = 0 }, func(m *api.Machine) { m.Lines[1].Priority = 0 }, func(m *api.Machine) { m.Lines[0].Raised = false }, func(m *api.Machine) { m.Lines = m.Lines[:1] },
		func(m *api.Machine) { m.Trace[0].Hart = 1 }, func(m *api.Machine) { m.Trace[0].Device = 1 }, func(m *api.Machine) { m.Trace[0].Reg = 1 }, func(m *api.Machine) { m.Trace[0].Write = false }, func(m *api.Machine) { m.Trace[0].N++ }, func(m *api.Machine) { m.Trace = nil }, func(m *api.Machine) { m.Trace = append(m.Trace, m.Trace[0]) },
	} {
		m := full()
		other(&m)
		if machine.Same(m, full()) || machine.Same(full(), m) || !machine.Same(m, copyOf(m)) {
			t.Errorf("%d: %s", i, text(m))
		}
	}
}

// C2: by other packages, what a step without anything beyond its hart comes to.
func TestPlainSteps(t *testing.T) {
	m := some(t, 2, addi(1, 1, 5), wfi, jal(2, -8))
	for range 50 {
		want := copyOf(m)
		in, _ := instrAt(m, m.Harts[1].PC)
		want.Harts[1], _ = hart.Step(m.Harts[1], 1, in)
		if m = behind(t, m, step(1)); !isSame(m, want) {
			t.Fatalf("%s, not %s", text(m), text(want))
		}
	}
	if m.Harts[1].Regs[1] != 5*17 || m.Harts[1].Regs[2] != 12 || m.Harts[1].PC != 8 || !store.Same(m.Memory, some(t, 2).Memory) {
		t.Errorf("%+v", m.Harts[1])
	}
}

package machine_test

import (
	"fmt"
	"math"
	"math/rand"
	"slices"
	"testing"

	"headstock/api"
	"headstock/code"
	"headstock/device"
	"headstock/hart"
	"headstock/machine"
	"headstock/store"
)

// What the chapter's words say, written out here by themselves: all places of code, of memory and of devices are counted up, and looked up where an address leads.

// spot is where an address leads: to a word, or to a device's register; what it is not is -1.
type spot struct{ word, device, reg int }

// spots are all that there are in a machine, by their addresses.
func spots(m api.Machine) map[int]spot {
	all := map[int]spot{}
	address := 268435456
	for i := range m.Devices {
		for r := range 4 {
			all[address+4*r] = spot{-1, i, r}
		}
		address += 256
	}
	address = 536870912
	for at := range m.Memory.Words {
		all[address] = spot{at, -1, -1}
		address += 4
	}
	return all
}

// instrAt is the instruction that stands at a place in code; false: none does.
func instrAt(m api.Machine, pc int) (api.Instr, bool) {
	for i, word := range m.Words {
		if pc == i+i+i+i {
			in, err := code.Decode(word)
			return in, err == api.OK
		}
	}
	return api.Instr{}, false
}

// copyOf is the same in other memory.
func copyOf(m api.Machine) api.Machine {
	out := api.Machine{
		Words: slices.Clone(m.Words), Harts: slices.Clone(m.Harts), Ends: slices.Clone(m.Ends), Devices: slices.Clone(m.Devices), Lines: slices.Clone(m.Lines), Trace: slices.Clone(m.Trace),
		Memory: api.Memory{Words: slices.Clone(m.Memory.Words), Reserved: slices.Clone(m.Memory.Reserved)},
	}
	for i := range out.Devices {
		out.Devices[i].Queue = slices.Clone(out.Devices[i].Queue)
	}
	for _, l := range m.Memory.Pending {
		out.Memory.Pending = append(out.Memory.Pending, slices.Clone(l))
	}
	return out
}

// want is what Do is to tell.
func want(m api.Machine, c api.Choice) (api.Machine, api.Errno) {
	behind, err := wantBehind(copyOf(m), c)
	if err != api.OK {
		return api.Machine{}, err
	}
	return behind, api.OK
}

// wantBehind writes into m.
func wantBehind(m api.Machine, c api.Choice) (api.Machine, api.Errno) {
	isHart := 0 <= c.Hart && c.Hart < len(m.Harts)
	switch c.Kind {
	case 1, 4:
		if !isHart {
			return m, 1
		}
		if m.Ends[c.Hart] != 0 {
			return m, 100
		}
		if c.Kind == 1 {
			return wantStep(m, c.Hart)
		}
		line := wantFirst(m, c.Hart)
		if line < 0 {
			return m, 101
		}
		m.Lines[line].Raised = false
		m.Harts[c.Hart] = hart.Trap(m.Harts[c.Hart], -2147483648+line)
		return m, 0
	case 2:
		if !isHart {
			return m, 1
		}
		memory, err := store.Drain(m.Memory, c.Hart, c.Which)
		m.Memory = memory
		return m, err
	case 3:
		if c.Which < 0 || c.Which > len(m.Lines)-1 {
			return m, 1
		}
		m.Lines[c.Which].Raised = true
		return m, 0
	case 5:
		if c.Which < 0 || c.Which > len(m.Devices)-1 {
			return m, 1
		}
		m.Devices[c.Which] = device.Input(m.Devices[c.Which], c.N)
		return m, 0
	}
	return m, 1
}

func wantStep(m api.Machine, id int) (api.Machine, api.Errno) {
	in, ok := instrAt(m, m.Harts[id].PC)
	if !ok {
		m.Ends[id] = 2
		return m, 0
	}
	h, e := hart.Step(m.Harts[id], id, in)
	switch e.Kind {
	case api.EffectBad:
		m.Ends[id] = 2
		return m, 0
	case api.EffectCall:
		m.Ends[id] = 1
	case api.EffectFence:
		if len(m.Memory.Pending[id]) > 0 {
			return m, 92
		}
	case api.EffectLoad, api.EffectStore, api.EffectReserve, api.EffectConditional, api.EffectChange:
		to, ok := spots(m)[e.Address]
		toRegister := e.Kind == api.EffectLoad || e.Kind == api.EffectStore
		if !ok || to.word < 0 && !toRegister {
			m.Ends[id] = 3
			return m, 0
		}
		if to.word < 0 {
			return wantAccess(m, id, h, e, to)
		}
		return wantWord(m, id, h, e, to.word)
	}
	m.Harts[id] = h
	return m, 0
}

// wantWord goes to a word, by a hart that is h behind the instruction.
func wantWord(m api.Machine, id int, h api.Hart, e api.Effect, at int) (api.Machine, api.Errno) {
	var n int
	var yes bool
	var err api.Errno
	memory := m.Memory
	switch e.Kind {
	case api.EffectLoad:
		n, err = store.Load(memory, id, at)
	case api.EffectStore:
		memory, err = store.Store(memory, id, at, e.N)
	case api.EffectReserve:
		n, memory, err = store.Reserve(memory, id, at)
	case api.EffectConditional:
		yes, memory, err = store.Conditional(memory, id, at, e.N)
		if !yes {
			n = 1
		}
	case api.EffectChange:
		n, memory, err = store.Change(memory, id, at, e.Op, e.N)
	}
	m.Memory = memory
	if e.Kind != api.EffectStore {
		h = hart.Put(h, e.D, n)
	}
	m.Harts[id] = h
	return m, err
}

// wantAccess goes to a register.
func wantAccess(m api.Machine, id int, h api.Hart, e api.Effect, to spot) (api.Machine, api.Errno) {
	if len(m.Memory.Pending[id]) > 0 {
		return m, 92
	}
	if e.Kind == api.EffectStore {
		m.Devices[to.device] = device.Write(m.Devices[to.device], to.reg, e.N)
		m.Trace = append(m.Trace, api.Access{Hart: id, Device: to.device, Reg: to.reg, Write: true, N: cut(e.N)})
	} else {
		n, s := device.Read(m.Devices[to.device], to.reg)
		m.Devices[to.device] = s
		m.Trace = append(m.Trace, api.Access{Hart: id, Device: to.device, Reg: to.reg, N: n})
		h = hart.Put(h, e.D, n)
	}
	m.Harts[id] = h
	return m, 0
}

// wantFirst asks priority by priority, from the greatest one on.
func wantFirst(m api.Machine, id int) int {
	if id < 0 || id >= len(m.Harts) || m.Harts[id].Status/8%2 == 0 {
		return -1
	}
	for priority := 7; priority > m.Harts[id].Level && priority >= 0; priority-- {
		for i, l := range m.Lines {
			if l.Priority == priority && l.Raised && l.Hart == id {
				return i
			}
		}
	}
	return -1
}

// cut is a number of 32 bits, with its sign.
func cut(n int) int { return int(int32(uint32(uint64(n)))) }

// flat are all numbers of a machine, one behind the other, with the lengths of its lists.
func flat(m api.Machine) []int {
	l := list(nil, m.Words)
	l = append(l, len(m.Harts))
	for _, h := range m.Harts {
		l = append(append(l, h.Regs[:]...), h.PC, h.Status, h.Vector, h.Scratch, h.EPC, h.Cause, h.Level)
	}
	l = list(list(list(l, m.Ends), m.Memory.Words), m.Memory.Reserved)
	l = append(l, len(m.Memory.Pending))
	for _, p := range m.Memory.Pending {
		l = append(l, len(p))
		for _, e := range p {
			l = append(l, e.At, e.N)
		}
	}
	l = append(l, len(m.Devices))
	for _, s := range m.Devices {
		l = append(list(append(append(l, s.Kind), s.Regs[:]...), s.Queue), s.Sent, bit(s.Raised))
	}
	l = append(l, len(m.Lines))
	for _, x := range m.Lines {
		l = append(l, x.Hart, x.Priority, bit(x.Raised))
	}
	l = append(l, len(m.Trace))
	for _, x := range m.Trace {
		l = append(l, x.Hart, x.Device, x.Reg, bit(x.Write), x.N)
	}
	return l
}

func list(l, of []int) []int { return append(append(l, len(of)), of...) }

func bit(is bool) int {
	if is {
		return 1
	}
	return 0
}

// isSame tells whether all of both is the same, by another way than the package's.
func isSame(a, b api.Machine) bool { return slices.Equal(flat(a), flat(b)) }

func isEmpty(m api.Machine) bool { return isSame(m, api.Machine{}) }

// does holds Do against the words, and is what it told; with an error the machine stays.
func does(t *testing.T, m api.Machine, c api.Choice) (api.Machine, api.Errno) {
	t.Helper()
	got, err := machine.Do(m, c)
	behind, wantErr := want(m, c)
	if err != wantErr || !isSame(got, behind) {
		t.Fatalf("%+v, of %s: %s, %d, not %s, %d", c, text(m), text(got), err, text(behind), wantErr)
	}
	if err != api.OK {
		return m, err
	}
	return got, err
}

func text(m api.Machine) string { return fmt.Sprintf("%+v", m) }

// Choices.

func step(hart int) api.Choice { return api.Choice{Kind: api.ChoiceStep, Hart: hart} }
func drain(hart, which int) api.Choice {
	return api.Choice{Kind: api.ChoiceDrain, Hart: hart, Which: which}
}
func raise(which int) api.Choice    { return api.Choice{Kind: api.ChoiceRaise, Which: which} }
func take(hart int) api.Choice      { return api.Choice{Kind: api.ChoiceTake, Hart: hart} }
func input(which, n int) api.Choice { return api.Choice{Kind: api.ChoiceInput, Which: which, N: n} }

// steps are so many of a hart.
func steps(hart, times int) []api.Choice { return slices.Repeat([]api.Choice{step(hart)}, times) }

// ins is an instruction, with what it has: D, A, B, and N.
func ins(op, d, a, b, n int) api.Instr { return api.Instr{Op: op, D: d, A: a, B: b, N: n} }

// coded are instructions' words.
func coded(t *testing.T, l ...api.Instr) []int {
	t.Helper()
	var words []int
	for _, in := range l {
		word, err := code.Encode(in)
		if err != api.OK {
			t.Fatalf("%+v: %d", in, err)
		}
		words = append(words, word)
	}
	return words
}

// made is a machine of that.
func made(t *testing.T, harts int, m api.Image, kinds []int, lines []api.Line) api.Machine {
	t.Helper()
	got, err := machine.New(harts, m, kinds, lines)
	if err != api.OK {
		t.Fatalf("New(%d, %v, %v, %v): %d", harts, m, kinds, lines, err)
	}
	return got
}

// some is one of so many harts, a device of each kind, a line of each hart, four words, and that code.
func some(t *testing.T, harts int, l ...api.Instr) api.Machine {
	t.Helper()
	var lines []api.Line
	for i := range harts {
		lines = append(lines, api.Line{Hart: i, Priority: i + 1})
	}
	return made(t, harts, api.Image{Words: coded(t, l...), Memory: 4}, []int{api.DeviceUart, api.DeviceTimer, api.DeviceGpio}, lines)
}

// behind is a machine behind choices, each of which may be and is held against the words.
func behind(t *testing.T, m api.Machine, all ...api.Choice) api.Machine {
	t.Helper()
	for i, c := range all {
		var err api.Errno
		if m, err = does(t, m, c); err != api.OK {
			t.Fatalf("choice %d, %+v: %d, of %s", i, c, err, text(m))
		}
	}
	return m
}

// fails holds that a choice may not be, and what is told then.
func fails(t *testing.T, m api.Machine, c api.Choice, err api.Errno) {
	t.Helper()
	if _, got := does(t, m, c); got != err {
		t.Errorf("%+v: %d, not %d, of %s", c, got, err, text(m))
	}
}

// farNumbers are places that there are not, or numbers beyond 32 bits.
var farNumbers = []int{-1, -2, -4, 5, 8, 9, 100, 1 << 31, 1 << 32, 1<<32 + 1, -1 << 31, -1 << 32, math.MaxInt, math.MinInt}

type chance struct {
	*rand.Rand
	// lazy is that much is stored and little drained, so that a hart comes to have as much pending as may be.
	lazy bool
}

// place is one below n, or rarely one that is none.
func (c *chance) place(n int) int {
	if n == 0 || c.Intn(30) == 0 {
		return append(farNumbers, n)[c.Intn(len(farNumbers)+1)]
	}
	return c.Intn(n)
}

// The registers that chance takes, by what stands in them: numbers, a word's address, a device's, and a place in code.
const (
	someNumber = 1 + iota
	otherNumber
	someWord
	otherWord
	someDevice
	somePlace
)

func (c *chance) number() int { return 1 + c.Intn(2) }

// instr is one that often goes to a word or a register.
func (c *chance) instr() api.Instr {
	word := someWord + c.Intn(2)
	if c.lazy && c.Intn(2) == 0 {
		return sw(word, c.number(), 0)
	}
	switch c.Intn(20) {
	case 0, 1:
		return ins(api.InLw, c.number(), word, 0, 4*c.Intn(3)-4)
	case 2, 3, 4:
		return ins(api.InSw, 0, word, c.number(), 4*c.Intn(3)-4)
	case 5, 6:
		return ins(api.InLw, c.number(), someDevice, 0, 4*c.Intn(4)+256*c.Intn(3))
	case 7, 8:
		return ins(api.InSw, 0, someDevice, c.number(), 4*c.Intn(4)+256*c.Intn(3))
	case 9, 10:
		return ins(api.InLr, c.number(), word, 0, c.Intn(4))
	case 11, 12:
		return ins(api.InSc, c.number(), word, c.number(), c.Intn(4))
	case 13:
		return ins([]int{api.InAmoSwap, api.InAmoAdd}[c.Intn(2)], c.number(), word, c.number(), c.Intn(4))
	case 14:
		return ins(api.InFence, 0, 0, 0, c.Intn(256))
	case 15:
		controls := []int{api.CsrStatus, api.CsrStatus, api.CsrStatus, api.CsrLevel, api.CsrCause, api.CsrHart, api.CsrScratch}
		return ins(api.InCsrrw+c.Intn(3), c.number(), c.Intn(3), 0, controls[c.Intn(len(controls))])
	case 16:
		return []api.Instr{ins(api.InJal, 1, 0, 0, 8), ins(api.InWfi, 0, 0, 0, 0), ins(api.InMret, 0, 0, 0, 0), ins(api.InJalr, 0, somePlace, 0, 4)}[c.Intn(4)]
	case 17:
		// What leads back would often be gone round for ever.
		return ins(api.InBeq+c.Intn(6), 0, c.number(), c.number(), 4*c.Intn(4)+4)
	case 18:
		return ins(api.InAdd+c.Intn(17), c.number(), c.number(), c.number(), 0)
	}
	return ins(api.InAddi, c.number(), c.Intn(3), 0, c.Intn(4096)-2048)
}

// rare is one that ends a hart, or often does.
func (c *chance) rare() api.Instr {
	switch c.Intn(5) {
	case 0:
		return ins(api.InEcall, 0, 0, 0, 0)
	case 1:
		return ins(api.InCsrrw, 1, 2, 0, c.Intn(4096))
	case 2:
		return ins(api.InLw, 1, someWord, 0, c.Intn(4096)-2048)
	case 3:
		return ins(api.InSw, 0, someDevice, 1, c.Intn(4096)-2048)
	}
	return ins(api.InLr+c.Intn(4), 1, 3+c.Intn(4), 0, 0)
}

// begun is a machine by chance, whose harts have what chance's instructions need.
func (c *chance) begun(t *testing.T) api.Machine {
	t.Helper()
	c.lazy = c.Intn(6) == 0
	var l []api.Instr
	for range 6 + c.Intn(20) {
		if c.Intn(25) == 0 {
			l = append(l, c.rare())
		} else {
			l = append(l, c.instr())
		}
	}
	// At the end it begins again, by a jump.
	image := api.Image{Words: coded(t, append(l, ins(api.InJal, 0, 0, 0, -4*len(l)))...), Memory: 2 + c.Intn(4)}
	if c.Intn(10) == 0 {
		image.Words[c.Intn(len(image.Words))] = c.Intn(1 << 32)
	}
	harts := 1 + c.Intn(4)
	var kinds []int
	for range c.Intn(4) {
		kinds = append(kinds, 1+c.Intn(3))
	}
	var lines []api.Line
	for range c.Intn(9) {
		lines = append(lines, api.Line{Hart: c.Intn(harts), Priority: c.Intn(8), Raised: c.Intn(2) == 0})
	}
	m := made(t, harts, image, kinds, lines)
	// What some code would have brought there.
	for i := range m.Harts {
		h := &m.Harts[i]
		h.Regs[someNumber], h.Regs[otherNumber] = cut(int(c.Uint64())), c.Intn(5)
		h.Regs[someWord], h.Regs[otherWord], h.Regs[someDevice] = 0x20000004, 0x20000008, 0x10000000
		h.Regs[somePlace] = 4 * c.Intn(len(image.Words))
		h.Status, h.Vector, h.EPC = 8*c.Intn(2)+128*c.Intn(2), h.Regs[somePlace], 4*c.Intn(len(image.Words))
	}
	return m
}

// choice is one to be done to that machine: mostly a step.
func (c *chance) choice(m api.Machine) api.Choice {
	hart := c.place(len(m.Harts))
	switch c.Intn(20) {
	case 0, 1, 2:
		if c.lazy && c.Intn(4) > 0 {
			return step(hart)
		}
		which := c.place(8)
		if hart >= 0 && hart < len(m.Harts) && c.Intn(8) > 0 {
			which = c.place(len(m.Memory.Pending[hart]))
		}
		return drain(hart, which)
	case 3:
		return raise(c.place(len(m.Lines)))
	case 4:
		return take(hart)
	case 5:
		return input(c.place(len(m.Devices)), int(c.Uint64()))
	case 6:
		if c.Intn(8) == 0 {
			return api.Choice{Kind: []int{0, 6, -1, 7, math.MaxInt, math.MinInt, 1<<32 + 1}[c.Intn(7)], Hart: hart}
		}
	}
	// What is not named does not matter.
	return api.Choice{Kind: api.ChoiceStep, Hart: hart, Which: c.Intn(3) - 1, N: c.Intn(3) - 1}
}

package machine_test

import (
	"slices"
	"testing"

	"headstock/api"
	"headstock/code"
	"headstock/device"
	"headstock/machine"
)

// In these tests a hart's x5 is an address, x6 a number, and x7 is what is set.
const (
	at    = 5
	with  = 6
	here  = 7
	plain = 0x5a5a5a5
)

// all are the instructions that go to an address, each by itself.
var all = []api.Instr{
	ins(api.InLw, here, at, 0, 0), ins(api.InSw, 0, at, with, 0), ins(api.InLr, here, at, 0, 0), ins(api.InSc, here, at, with, 0), ins(api.InAmoSwap, here, at, with, 0), ins(api.InAmoAdd, here, at, with, 0),
}

// goes is a machine whose hart 1 is at one instruction, behind another; hart 0 has two stores pending.
func goes(t *testing.T, in api.Instr, address, n int) api.Machine {
	t.Helper()
	m := made(t, 2, api.Image{Words: coded(t, wfi, in), Memory: 3}, []int{api.DeviceGpio, api.DeviceUart}, nil)
	m = behind(t, m, step(1), input(1, 65), input(1, 66), input(0, 9))
	m.Memory.Words = []int{11, 12, 13}
	m.Memory.Pending[0] = []api.Entry{{At: 0, N: 91}, {At: 2, N: 92}}
	h := &m.Harts[1]
	h.Regs[at], h.Regs[with], h.Regs[here] = cut(address), n, plain
	return m
}

// found says where an address of that machine leads: a word, or a device and a register.
var found = map[int][3]int{
	0x20000000: {0}, 0x20000004: {1}, 0x20000008: {2},
	0x10000000: {-1, 0, 0}, 0x10000004: {-1, 0, 1}, 0x10000008: {-1, 0, 2}, 0x1000000c: {-1, 0, 3},
	0x10000100: {-1, 1, 0}, 0x10000104: {-1, 1, 1}, 0x10000108: {-1, 1, 2}, 0x1000010c: {-1, 1, 3},
}

// addresses are those that lead somewhere, and what is beside them.
func addresses() []int {
	l := []int{0, 1, 4, 256, -1, -4, -256, 0x10000010, 0x100000fc, 0x10000110, 0x100001fc, 0x10000200, 0x10000204, 0x10000800, 0x0ffffffc, 0x0fffff00, 0x0ffffe00, 0x1ffffffc, 0x1fffff00, 0x2000000c, 0x20000100, 0x20004000, 0x20003ffc, 0x30000000, 0x7ffffffc, 0x80000000, 0x90000000, 0xa0000000, 0x100000000, 0x08000000, 0x04000000}
	for address := range found {
		for by := -3; by <= 3; by++ {
			l = append(l, address+by)
		}
	}
	slices.Sort(l)
	return slices.Compact(l)
}

// C3: each instruction to each address: where it leads, and what becomes of the hart.
func TestAddresses(t *testing.T) {
	for _, in := range all {
		for _, address := range addresses() {
			m := goes(t, in, address, 4)
			got := behind(t, m, step(1))
			to, ok := found[address]
			toRegister := in.Op == api.InLw || in.Op == api.InSw
			if !ok || to[0] < 0 && !toRegister {
				want := copyOf(m)
				want.Ends[1] = api.EndWhere
				if !isSame(got, want) {
					t.Errorf("%s at %#x: %s, not %s", code.Name(in.Op), address, text(got), text(want))
				}
				continue
			}
			if got.Ends[1] != api.EndNot || got.Harts[1].PC != 8 {
				t.Errorf("%s at %#x: %s", code.Name(in.Op), address, text(got))
			}
			if to[0] < 0 {
				if x := got.Trace; len(x) != 1 || x[0].Hart != 1 || x[0].Device != to[1] || x[0].Reg != to[2] || x[0].Write != (in.Op == api.InSw) {
					t.Errorf("%s at %#x: %+v", code.Name(in.Op), address, x)
				}
			} else if len(got.Trace) != 0 {
				t.Errorf("%s at %#x: %+v", code.Name(in.Op), address, got.Trace)
			}
		}
	}
}

// C3: an instruction's own number is part of the address.
func TestOffsets(t *testing.T) {
	for _, x := range []struct{ base, n, end int }{
		{0x20000000, 4, api.EndNot}, {0x20000000, -4, api.EndWhere}, {0x20000000, 12, api.EndWhere}, {0x20000800, -2048, api.EndNot}, {0x20000000 - 2044, 2044, api.EndNot}, {0x20000001, -1, api.EndNot}, {0x20000001, 0, api.EndWhere}, {0x10000000, 256, api.EndNot}, {0x10000000, 512, api.EndWhere}, {0x10000000, 2, api.EndWhere}, {0x10000100, -256, api.EndNot}, {0x10000100, -4, api.EndWhere},
	} {
		for _, in := range []api.Instr{lw(here, at, x.n), sw(at, with, x.n)} {
			if got := behind(t, goes(t, in, x.base, 4), step(1)); got.Ends[1] != x.end {
				t.Errorf("%d(%#x): end %d, not %d", x.n, x.base, got.Ends[1], x.end)
			}
		}
	}
}

// C3: of a word, by numbers that are known.
func TestWords(t *testing.T) {
	const least = -1 << 31
	type told struct{ here, word, pending, reserved int }
	for i, x := range []struct {
		in   api.Instr
		n    int
		want told
	}{
		{all[0], 4, told{13, 13, 0, -1}},
		{all[1], 4, told{plain, 13, 1, -1}},
		{all[1], least, told{plain, 13, 1, -1}},
		{all[2], 4, told{13, 13, 0, 2}},
		{all[3], 4, told{1, 13, 0, -1}},
		{all[4], 4, told{13, 4, 0, -1}},
		{all[4], -1, told{13, -1, 0, -1}},
		{all[5], 4, told{13, 17, 0, -1}},
		{all[5], -14, told{13, -1, 0, -1}},
		{all[5], 1<<31 - 1, told{13, least + 12, 0, -1}},
	} {
		m := goes(t, x.in, 0x20000008, x.n)
		m.Memory.Reserved[0] = 2
		got := behind(t, m, step(1))
		if told := (told{got.Harts[1].Regs[here], got.Memory.Words[2], len(got.Memory.Pending[1]), got.Memory.Reserved[1]}); told != x.want {
			t.Errorf("%d: %+v, not %+v", i, told, x.want)
		}
		if !slices.Equal(got.Memory.Words[:2], []int{11, 12}) || !slices.Equal(got.Memory.Pending[0], m.Memory.Pending[0]) || got.Harts[1].PC != 8 || got.Harts[0] != m.Harts[0] || got.Ends[1] != api.EndNot || len(got.Trace) != 0 {
			t.Errorf("%d: %s", i, text(got))
		}
		if lost := x.want.word != 13; lost != (got.Memory.Reserved[0] == -1) {
			t.Errorf("%d: reserved: %v", i, got.Memory.Reserved)
		}
		if len(got.Memory.Pending[1]) == 1 && got.Memory.Pending[1][0] != (api.Entry{At: 2, N: x.n}) {
			t.Errorf("%d: pending: %v", i, got.Memory.Pending)
		}
	}
}

// C3: a hart loads what it has pending itself, and not what another one has.
func TestOwnPending(t *testing.T) {
	m := goes(t, lw(here, at, 0), 0x20000000, 0)
	if got := behind(t, m, step(1)); got.Harts[1].Regs[here] != 11 {
		t.Errorf("another's: %d", got.Harts[1].Regs[here])
	}
	m.Memory.Pending[1] = []api.Entry{{At: 0, N: 5}, {At: 0, N: -6}, {At: 1, N: 7}}
	if got := behind(t, m, step(1)); got.Harts[1].Regs[here] != -6 || len(got.Memory.Pending[1]) != 3 {
		t.Errorf("its own: %d", got.Harts[1].Regs[here])
	}
}

// C3: what Conditional tells is 0, if it stores, and 1, if not.
func TestConditional(t *testing.T) {
	for reserved := -1; reserved < 3; reserved++ {
		m := goes(t, all[3], 0x20000004, -5)
		m.Memory.Reserved = []int{1, reserved}
		got := behind(t, m, step(1))
		told, word, other := 1, 12, 1
		if reserved == 1 {
			told, word, other = 0, -5, -1
		}
		if got.Harts[1].Regs[here] != told || got.Memory.Words[1] != word || !slices.Equal(got.Memory.Reserved, []int{other, -1}) {
			t.Errorf("reserved %d: %d, %+v", reserved, got.Harts[1].Regs[here], got.Memory)
		}
	}
}

// C3: where stores are pending, all but loads and stores of words wait; nothing is changed then.
func TestBusy(t *testing.T) {
	mayGo := []int{api.InLw, api.InSw}
	for _, in := range append(slices.Clone(all), fence) {
		for _, address := range addresses() {
			m := goes(t, in, address, 4)
			m.Memory.Pending[1] = []api.Entry{{At: 1, N: 6}}
			to, ok := found[address]
			isWord, isRegister := ok && to[0] >= 0, ok && to[0] < 0 && slices.Contains(mayGo, in.Op)
			waits := in.Op == api.InFence || isRegister || isWord && !slices.Contains(mayGo, in.Op)
			got, err := does(t, m, step(1))
			if waits != (err == api.ErrBusy) || !waits && err != api.OK {
				t.Errorf("%s at %#x: %d", code.Name(in.Op), address, err)
			}
			if waits != isSame(got, m) {
				t.Errorf("%s at %#x: %s, of %s", code.Name(in.Op), address, text(got), text(m))
			}
			if in.Op != api.InFence && !isWord && !isRegister && got.Ends[1] != api.EndWhere {
				t.Errorf("%s at %#x: end %d", code.Name(in.Op), address, got.Ends[1])
			}
		}
	}
}

// C3: fences go on, as soon as nothing of the hart's own is pending.
func TestFence(t *testing.T) {
	m := some(t, 2, lui(5, 0x20000), sw(5, 5, 0), sw(5, 5, 4), fence, ins(api.InFence, 0, 0, 0, 255))
	m = behind(t, m, append(steps(0, 3), steps(1, 2)...)...)
	fails(t, m, step(0), api.ErrBusy)
	m = behind(t, m, drain(0, 1))
	fails(t, m, step(0), api.ErrBusy)
	m = behind(t, m, drain(0, 0), step(0), step(0))
	if m.Harts[0].PC != 20 || len(m.Memory.Pending[1]) != 1 {
		t.Errorf("%s", text(m))
	}
}

// C3: a ninth store waits until one is drained.
func TestFull(t *testing.T) {
	m := some(t, 2, lui(5, 0x20000), sw(5, 5, 4), jal(0, -4))
	m = behind(t, m, steps(1, 16)...)
	if len(m.Memory.Pending[1]) != 8 || m.Harts[1].PC != 8 {
		t.Fatalf("%+v", m.Memory)
	}
	m = behind(t, m, step(1))
	fails(t, m, step(1), api.ErrFull)
	fails(t, m, drain(1, 7), api.ErrAhead)
	m = behind(t, m, step(0), step(0), drain(1, 0), step(1), step(1))
	fails(t, m, step(1), api.ErrFull)
	if len(m.Memory.Pending[1]) != 8 || m.Memory.Words[1] != 0x20000000 {
		t.Errorf("%+v", m.Memory)
	}
}

// C3: each register of each kind, read and written, is what package device tells of it, and one access more.
func TestRegisters(t *testing.T) {
	kinds := []int{api.DeviceGpio, api.DeviceTimer, api.DeviceUart}
	for which, kind := range kinds {
		for reg := range 4 {
			for _, n := range []int{0, 1, 5, -1, -1 << 31, 1<<31 - 1} {
				m := made(t, 3, api.Image{Words: coded(t, lw(here, at, 0), sw(at, with, 0), lw(here, at, 0))}, kinds, nil)
				s := device.New(kind)
				for i := range kinds {
					m.Devices[i] = device.Write(device.Write(m.Devices[i], 2, 3), 1, 1)
				}
				s = device.Write(device.Write(s, 2, 3), 1, 1)
				for _, handed := range []int{1, 2} {
					m, s = behind(t, m, input(which, handed)), device.Input(s, handed)
				}
				m.Harts[2].Regs[at], m.Harts[2].Regs[with] = 0x10000000+256*which+4*reg, n
				want := copyOf(m)
				first, s := device.Read(s, reg)
				s = device.Write(s, reg, n)
				last, s := device.Read(s, reg)
				want.Devices[which] = s
				want.Trace = []api.Access{{Hart: 2, Device: which, Reg: reg, N: first}, {Hart: 2, Device: which, Reg: reg, Write: true, N: n}, {Hart: 2, Device: which, Reg: reg, N: last}}
				want.Harts[2].Regs[here], want.Harts[2].PC = last, 12
				if got := behind(t, m, steps(2, 3)...); !isSame(got, want) {
					t.Errorf("kind %d, register %d, %d: %s, not %s", kind, reg, n, text(got), text(want))
				}
			}
		}
	}
}

// C3: the last register of the last one of the most devices that there may be, and what is behind it.
func TestLastDevice(t *testing.T) {
	m := made(t, 1, api.Image{Words: coded(t, lui(5, 0x10000), addi(6, 0, -7), sw(5, 6, 1800), lw(7, 5, 1804), sw(5, 6, 1808))}, slices.Repeat([]int{api.DeviceUart}, 8), nil)
	m = behind(t, m, steps(0, 5)...)
	if !slices.Equal(m.Trace, []api.Access{{Device: 7, Reg: 2, Write: true, N: -7}, {Device: 7, Reg: 3}}) || m.Ends[0] != api.EndWhere || m.Devices[7].Regs[2] != -7 {
		t.Errorf("%s", text(m))
	}
}

// C3: what is told for x0 goes nowhere, but is told; what an instruction reads may be what it sets.
func TestSameRegister(t *testing.T) {
	m := behind(t, goes(t, lw(0, at, 0), 0x10000100, 0), step(1))
	if m.Harts[1].Regs[0] != 0 || len(m.Devices[1].Queue) != 1 || !slices.Equal(m.Trace, []api.Access{{Hart: 1, Device: 1, N: 65}}) {
		t.Errorf("x0: %s", text(m))
	}
	for _, in := range []api.Instr{lw(at, at, 0), ins(api.InLr, at, at, 0, 0), ins(api.InAmoAdd, at, at, with, 3)} {
		if m := behind(t, goes(t, in, 0x20000004, 4), step(1)); m.Harts[1].Regs[at] != 12 || m.Ends[1] != api.EndNot {
			t.Errorf("%s: %+v", code.Name(in.Op), m.Harts[1])
		}
	}
	m = behind(t, goes(t, ins(api.InAmoSwap, with, at, with, 0), 0x20000004, 4), step(1))
	if m.Harts[1].Regs[with] != 12 || m.Memory.Words[1] != 4 {
		t.Errorf("swap: %s", text(m))
	}
	m = behind(t, goes(t, ins(api.InAmoAdd, at, at, at, 0), 0x20000004, 4), step(1))
	if m.Harts[1].Regs[at] != 12 || m.Memory.Words[1] != 0x20000004+12 {
		t.Errorf("add of the address: %s", text(m))
	}
}

// C3: how a hart ends, and where it is then.
func TestEnds(t *testing.T) {
	for name, x := range map[string]struct {
		last    api.Instr
		pc, end int
	}{
		"a call":              {ecall, 12, api.EndCall},
		"no control register": {csrrw(7, 5, 0x123), 8, api.EndCode},
		"nowhere":             {lw(7, 0, 0), 8, api.EndWhere},
		"waiting":             {wfi, 12, api.EndNot},
		"back to nowhere":     {mret, 0, api.EndNot},
	} {
		m := some(t, 2, lui(5, 0x20000), addi(7, 0, 9), x.last)
		m = behind(t, m, steps(1, 3)...)
		want := some(t, 2, lui(5, 0x20000), addi(7, 0, 9), x.last)
		want.Harts[1].Regs[5], want.Harts[1].Regs[7], want.Harts[1].PC, want.Ends[1] = 0x20000000, 9, x.pc, x.end
		if name == "back to nowhere" {
			want.Harts[1].Status = 128
		}
		if !isSame(m, want) {
			t.Errorf("%s: %s, not %s", name, text(m), text(want))
		}
	}
}

// C3: an address that is none ends a hart even where stores are pending, and they stay.
func TestWhereIsFirst(t *testing.T) {
	for _, in := range all {
		m := goes(t, in, 0x2000000c, 4)
		m.Memory.Pending[1] = slices.Repeat([]api.Entry{{At: 1, N: 6}}, 8)
		got, err := machine.Do(m, step(1))
		if err != api.OK || got.Ends[1] != api.EndWhere || len(got.Memory.Pending[1]) != 8 {
			t.Errorf("%s: %d, %s", code.Name(in.Op), err, text(got))
		}
	}
}

package device_test

import (
	"math"
	"math/rand"
	"slices"
	"testing"

	"headstock/api"
	"headstock/device"
)

// G1: a device of a kind, all else of which is 0, empty or false; of no kind nothing.
func TestNew(t *testing.T) {
	for i, kind := range someKinds {
		s, want := device.New(kind), 0
		if i < 3 {
			want = kind
		}
		if s.Kind != want || s.Regs != [4]int{} || len(s.Queue) != 0 || s.Sent != 0 || s.Raised {
			t.Errorf("%d: %v", kind, s)
		}
		if device.Raises(s) || !device.Same(s, api.State{Kind: want}) {
			t.Errorf("%d: %v, %v", kind, device.Raises(s), s)
		}
		is(t, s, kind, nil)
	}
}

// step is something done, what it tells (0 of all but reads), and whether the device raises its interrupt then.
type step struct {
	act
	n      int
	raises bool
}

// play does the steps to a new device; each is held against the words, too.
func play(t *testing.T, name string, kind int, steps []step) {
	t.Helper()
	s := device.New(kind)
	var p past
	for i, x := range steps {
		var n int
		n, s = done(s, x.act)
		p = append(p, x.act)
		if n != x.n || s.Raised != x.raises || device.Raises(s) != x.raises {
			t.Errorf("%s, step %d: %d, %v, %v, not %d, %v", name, i, n, s.Raised, device.Raises(s), x.n, x.raises)
		}
		is(t, s, kind, p)
	}
}

// The chapter's example.
func TestExample(t *testing.T) {
	play(t, "65", api.DeviceUart, []step{{input(65), 0, false}, {read(1), 3, false}, {read(0), 65, false}, {read(1), 2, false}})
}

// G2: a uart's registers, its queue and its interrupt.
func TestUart(t *testing.T) {
	for name, steps := range map[string][]step{
		"at first":   {{read(0), -1, false}, {read(1), 2, false}, {read(2), 0, false}, {read(3), 0, false}, {read(0), -1, false}},
		"in order":   {{input(3), 0, false}, {input(1), 0, false}, {input(3), 0, false}, {read(0), 3, false}, {read(1), 3, false}, {read(0), 1, false}, {read(0), 3, false}, {read(0), -1, false}, {read(1), 2, false}},
		"eight bits": {{input(0), 0, false}, {read(1), 3, false}, {input(255), 0, false}, {input(256), 0, false}, {input(-1), 0, false}, {input(-256), 0, false}, {input(1<<32 + 9), 0, false}, {input(math.MinInt), 0, false}, {input(math.MaxInt), 0, false}, {input(0x1ff), 0, false}, {read(0), 0, false}, {read(0), 255, false}, {read(0), 0, false}, {read(0), 255, false}, {read(0), 0, false}, {read(0), 9, false}, {read(0), 0, false}, {read(0), 255, false}, {read(0), 255, false}, {read(0), -1, false}},
		"sent":       {{write(0, 7), 0, false}, {read(3), 1, false}, {write(0, 0), 0, false}, {write(0, -1), 0, false}, {write(0, 1<<40), 0, false}, {read(3), 4, false}, {read(3), 4, false}, {read(0), -1, false}, {read(1), 2, false}},
		"not written": {{write(1, 9), 0, false}, {write(3, 9), 0, false}, {read(0), -1, false}, {read(1), 2, false}, {read(2), 0, false}, {read(3), 0, false},
			{input(8), 0, false}, {write(2, 1), 0, true}, {write(1, 0), 0, true}, {write(3, 0), 0, true}, {write(0, 0), 0, true}, {read(3), 1, true}, {read(1), 3, true}, {read(0), 8, false}},
		"written":         {{write(2, 1<<31), 0, false}, {read(2), -1 << 31, false}, {write(2, 1<<32-2), 0, false}, {read(2), -2, false}, {read(2), -2, false}, {write(2, 1<<32), 0, false}, {read(2), 0, false}},
		"let, then in":    {{write(2, 1), 0, false}, {input(5), 0, true}, {input(6), 0, true}, {read(1), 3, true}, {read(2), 1, true}, {read(3), 0, true}, {read(0), 5, true}, {read(0), 6, false}, {input(7), 0, true}},
		"in, then let":    {{input(5), 0, false}, {write(2, 3), 0, true}, {write(2, 2), 0, false}, {write(2, -1), 0, true}, {write(2, -2), 0, false}, {write(2, 1<<32), 0, false}, {write(2, 1<<32+1), 0, true}, {write(2, 0), 0, false}},
		"by bit 0 alone":  {{write(2, 2), 0, false}, {input(1), 0, false}, {write(2, 1<<31), 0, false}, {write(2, 256), 0, false}, {write(2, 257), 0, true}},
		"empty, then let": {{write(2, 1), 0, false}, {read(0), -1, false}, {read(0), -1, false}, {write(2, 0), 0, false}, {write(2, 1), 0, false}},
	} {
		play(t, name, api.DeviceUart, steps)
	}
}

// G2: up to 16 wait; what comes then goes nowhere, till one was read.
func TestQueue(t *testing.T) {
	for n := range 20 {
		p := past{write(2, 1)}
		for i := range n {
			p = append(p, input(100+i))
		}
		for range n + 1 {
			p = append(p, read(0))
		}
		holds(t, api.DeviceUart, p...)
	}
	s := device.New(api.DeviceUart)
	for i := range 16 {
		s = device.Input(s, 200+i)
	}
	full := device.Input(s, 9)
	if len(full.Queue) != api.MaxQueue || !device.Same(full, s) || slices.Contains(full.Queue, 9) {
		t.Errorf("a seventeenth: %v", full)
	}
	n, s := device.Read(full, 0)
	s = device.Input(device.Input(s, 9), 10)
	if n != 200 || len(s.Queue) != 16 || s.Queue[0] != 201 || s.Queue[14] != 215 || s.Queue[15] != 9 {
		t.Errorf("behind one that was read: %d, %v", n, s)
	}
}

// G2: how many were sent is told modulo 2^31.
func TestSent(t *testing.T) {
	s := api.State{Kind: api.DeviceUart, Queue: []int{4}, Sent: 1<<31 - 2}
	for i, want := range []int{1<<31 - 1, 0, 1} {
		s = device.Write(s, 0, 5)
		if got := first(device.Read(s, 3)); s.Sent != want || got != want {
			t.Errorf("%d: %d, %d, not %d", i, s.Sent, got, want)
		}
	}
	if got := first(device.Read(s, 0)); got != 4 {
		t.Errorf("its queue: %d", got)
	}
}

// G3: a timer's registers and its interrupt.
func TestTimer(t *testing.T) {
	for name, steps := range map[string][]step{
		"at first":      {{read(0), 0, false}, {read(1), 0, false}, {read(2), 0, false}, {read(3), 0, false}},
		"counts":        {{input(0), 0, false}, {read(0), 1, false}, {input(-5), 0, false}, {input(math.MaxInt), 0, false}, {input(3), 0, false}, {read(0), 4, false}, {read(0), 4, false}},
		"not written":   {{input(0), 0, false}, {write(0, 9), 0, false}, {read(0), 1, false}, {write(3, 1), 0, false}, {read(3), 0, false}, {read(0), 1, false}, {read(1), 0, false}, {read(2), 0, false}},
		"written":       {{write(1, 1<<31), 0, false}, {write(2, 1<<32-2), 0, false}, {read(1), -1 << 31, false}, {read(2), -2, false}, {write(1, 1<<32+7), 0, false}, {read(1), 7, false}, {read(2), -2, false}, {read(3), 0, false}},
		"at two":        {{write(1, 2), 0, false}, {write(2, 1), 0, false}, {input(0), 0, false}, {read(3), 0, false}, {input(0), 0, true}, {read(3), 1, true}, {read(3), 1, true}, {input(0), 0, true}, {read(3), 1, true}, {write(3, 0), 0, false}, {read(3), 0, false}, {read(0), 3, false}, {input(0), 0, false}},
		"not let":       {{write(1, 1), 0, false}, {input(0), 0, false}, {write(2, 1), 0, false}, {input(0), 0, false}, {read(3), 0, false}},
		"by bit 0":      {{write(1, 1), 0, false}, {write(2, -2), 0, false}, {input(0), 0, false}, {write(1, 2), 0, false}, {write(2, 3), 0, false}, {input(0), 0, true}},
		"once more":     {{write(2, 1), 0, false}, {write(1, 1), 0, false}, {input(0), 0, true}, {write(3, -1), 0, false}, {write(1, 2), 0, false}, {input(0), 0, true}, {write(3, 1<<32), 0, false}, {write(3, 5), 0, false}},
		"stays":         {{write(2, 1), 0, false}, {write(1, 1), 0, false}, {input(0), 0, true}, {write(2, 0), 0, true}, {write(1, 9), 0, true}, {write(0, 9), 0, true}, {input(0), 0, true}, {write(3, 0), 0, false}},
		"not by writes": {{write(2, 1), 0, false}, {input(0), 0, false}, {write(1, 1), 0, false}, {read(3), 0, false}, {write(2, 1), 0, false}, {write(3, 1), 0, false}, {read(3), 0, false}},
		"not at first":  {{write(2, 1), 0, false}, {write(1, 0), 0, false}, {read(3), 0, false}, {input(0), 0, false}, {read(3), 0, false}},
		"cut":           {{write(2, 1<<40+1), 0, false}, {write(1, 1<<32+1), 0, false}, {input(0), 0, true}},
		"negative":      {{write(2, 1), 0, false}, {write(1, -1), 0, false}, {input(0), 0, false}, {input(-1), 0, false}, {input(1), 0, false}},
	} {
		play(t, name, api.DeviceTimer, steps)
	}
}

// G3: how often is cut as each number is, and held against register 1 then.
func TestTimerWraps(t *testing.T) {
	for _, x := range []struct{ from, to int }{{1<<31 - 2, 1<<31 - 1}, {1<<31 - 1, -1 << 31}, {-1 << 31, -1<<31 + 1}, {-2, -1}, {-1, 0}, {0, 1}, {254, 255}, {255, 256}, {1<<16 - 1, 1 << 16}} {
		s := api.State{Kind: api.DeviceTimer, Regs: [4]int{x.from, x.to, 1, 0}}
		at := device.Input(s, 9)
		if got := first(device.Read(at, 0)); got != x.to || !at.Raised {
			t.Errorf("behind %d: %d, %v", x.from, got, at.Raised)
		}
		s.Regs[1] = x.from
		if at = device.Input(s, x.from); at.Raised {
			t.Errorf("behind %d: raised", x.from)
		}
	}
}

// G4: a gpio's registers and its interrupt.
func TestGpio(t *testing.T) {
	for name, steps := range map[string][]step{
		"at first":      {{read(0), 0, false}, {read(1), 0, false}, {read(2), 0, false}, {read(3), 0, false}},
		"written":       {{write(0, 1<<31), 0, false}, {write(2, 1<<32-2), 0, false}, {read(0), -1 << 31, false}, {read(2), -2, false}, {write(0, 1<<32+5), 0, false}, {read(0), 5, false}, {read(1), 0, false}, {read(3), 0, false}},
		"not written":   {{input(6), 0, false}, {write(1, 9), 0, false}, {read(1), 6, false}, {write(3, 9), 0, false}, {read(3), 0, false}},
		"handed in":     {{input(1 << 31), 0, false}, {read(1), -1 << 31, false}, {input(1<<32 + 3), 0, false}, {read(1), 3, false}, {input(-1), 0, false}, {read(1), -1, false}, {read(3), 0, false}, {read(0), 0, false}},
		"changed":       {{write(2, 6), 0, false}, {input(3), 0, true}, {read(3), 2, true}, {input(3), 0, true}, {read(3), 2, true}, {input(4), 0, true}, {read(3), 6, true}, {read(1), 4, true}, {input(0), 0, true}, {read(3), 6, true}},
		"down, too":     {{input(5), 0, false}, {write(2, 4), 0, false}, {input(1), 0, true}, {read(3), 4, true}},
		"not any more":  {{write(2, -1), 0, false}, {input(7), 0, true}, {write(3, 2), 0, true}, {read(3), 5, true}, {write(3, 2), 0, true}, {write(3, 0), 0, true}, {read(3), 5, true}, {write(3, 13), 0, false}, {read(3), 0, false}, {input(7), 0, false}, {read(1), 7, false}, {input(6), 0, true}, {read(3), 1, true}, {write(3, -1), 0, false}},
		"of those":      {{input(-1), 0, false}, {read(3), 0, false}, {write(2, -1), 0, false}, {input(-1), 0, false}, {read(3), 0, false}, {write(2, 0), 0, false}, {input(0), 0, false}, {read(3), 0, false}},
		"mask behind":   {{write(2, 1), 0, false}, {input(1), 0, true}, {write(2, 0), 0, true}, {read(3), 1, true}, {input(0), 0, true}, {read(3), 1, true}, {write(2, 6), 0, true}, {read(3), 1, true}, {write(3, 1), 0, false}},
		"the sign's":    {{write(2, 1<<31), 0, false}, {input(math.MaxInt), 0, true}, {read(3), -1 << 31, true}, {write(3, 1<<31-1), 0, true}, {write(3, 1<<31), 0, false}, {input(math.MinInt), 0, true}, {read(3), -1 << 31, true}, {read(1), 0, true}, {write(3, -1<<31), 0, false}},
		"beyond 32":     {{write(2, 1<<33), 0, false}, {input(-1), 0, false}, {write(2, 1), 0, false}, {input(-1 << 32), 0, true}, {read(3), 1, true}, {write(3, 1<<32), 0, true}, {write(3, 1<<32+1), 0, false}},
		"written apart": {{write(2, 3), 0, false}, {write(0, 3), 0, false}, {read(3), 0, false}, {input(3), 0, true}, {write(0, 0), 0, true}, {read(1), 3, true}, {read(3), 3, true}, {write(1, 0), 0, true}, {input(3), 0, true}, {write(3, 3), 0, false}, {write(1, 0), 0, false}, {input(3), 0, false}},
	} {
		play(t, name, api.DeviceGpio, steps)
	}
}

// someStates are devices of each kind, as calls told them.
func someStates() []api.State {
	l := []api.State{}
	for _, kind := range someKinds[:4] {
		l = append(l, device.New(kind), after(kind, input(1)), after(kind, write(2, -1), write(1, 1), write(0, 5), input(7), input(9), read(1)))
	}
	c := &chance{rand.New(rand.NewSource(50))}
	for range 60 {
		s := device.New(someKinds[c.Intn(3)])
		for range c.Intn(30) {
			_, s = done(s, c.act())
		}
		l = append(l, s)
	}
	return l
}

// G2 to G4: what is written into a register where nothing is done changes nothing at all.
func TestWrittenForNothing(t *testing.T) {
	for _, s := range someStates() {
		for _, x := range []struct{ kind, reg int }{{api.DeviceUart, 1}, {api.DeviceUart, 3}, {api.DeviceTimer, 0}, {api.DeviceGpio, 1}} {
			if s.Kind != x.kind {
				continue
			}
			for _, n := range someNumbers {
				if behind := device.Write(s, x.reg, n); !device.Same(behind, s) {
					t.Errorf("write %d %d: %v, of %v", x.reg, n, behind, s)
				}
			}
		}
	}
}

// Words: of a register that there is not Read tells 0, and nothing is changed.
func TestNoRegister(t *testing.T) {
	for _, s := range someStates() {
		for _, reg := range someRegs[4:] {
			if n, behind := device.Read(s, reg); n != 0 || !device.Same(behind, s) {
				t.Errorf("read %d: %d, %v, of %v", reg, n, behind, s)
			}
			for _, n := range someNumbers {
				if behind := device.Write(s, reg, n); !device.Same(behind, s) {
					t.Errorf("write %d %d: %v, of %v", reg, n, behind, s)
				}
			}
		}
	}
}

// Words: of a kind that there is not Read tells 0, and nothing is changed.
func TestNoKind(t *testing.T) {
	for _, kind := range someKinds[3:] {
		s := device.New(kind)
		for _, reg := range someRegs {
			if n, behind := device.Read(s, reg); n != 0 || !device.Same(behind, s) {
				t.Errorf("kind %d, read %d: %d, %v", kind, reg, n, behind)
			}
			for _, n := range someNumbers {
				for _, x := range []act{write(reg, n), input(n)} {
					if behind := behind(done(s, x)); !device.Same(behind, api.State{}) {
						t.Errorf("kind %d, %v: %v", kind, past{x}, behind)
					}
				}
			}
		}
	}
}

// G5: whether it raises its interrupt is what Raised says; two are the same, if all of both is.
func TestSame(t *testing.T) {
	l := someStates()
	for i, a := range l {
		if device.Raises(a) != a.Raised {
			t.Errorf("%v: %v", a, device.Raises(a))
		}
		b := a
		b.Queue = slices.Clone(a.Queue)
		if !device.Same(a, b) {
			t.Errorf("%d is not the same as its copy: %v", i, a)
		}
		for k, other := range l {
			same := a.Kind == other.Kind && a.Regs == other.Regs && slices.Equal(a.Queue, other.Queue) && a.Sent == other.Sent && a.Raised == other.Raised
			if device.Same(a, other) != same {
				t.Errorf("%v, %v: %v", a, l[k], !same)
			}
		}
	}
	if !device.Same(api.State{Kind: 1, Queue: []int{}}, device.New(1)) || !device.Same(device.New(1), api.State{Kind: 1, Queue: []int{}}) {
		t.Error("no elements, and none")
	}
	if !device.Same(behind(device.Read(after(1, input(8)), 0)), device.New(1)) {
		t.Error("one that is empty again, and one that never was anything else")
	}
}

// G5: one thing that is unlike is enough.
func TestNotSame(t *testing.T) {
	a := api.State{Kind: 1, Regs: [4]int{1, 2, 3, 4}, Queue: []int{5, 6}, Sent: 7, Raised: true}
	for i, change := range []func(*api.State){
		func(s *api.State) { s.Kind = 2 }, func(s *api.State) { s.Sent = 8 }, func(s *api.State) { s.Raised = false },
		func(s *api.State) { s.Regs[0] = 0 }, func(s *api.State) { s.Regs[1] = 0 }, func(s *api.State) { s.Regs[2] = 0 }, func(s *api.State) { s.Regs[3] = 0 },
		func(s *api.State) { s.Queue = nil }, func(s *api.State) { s.Queue = []int{5} }, func(s *api.State) { s.Queue = []int{6, 5} },
		func(s *api.State) { s.Queue = []int{5, 6, 0} }, func(s *api.State) { s.Queue = []int{5, 7} }, func(s *api.State) { s.Queue = []int{4, 6} },
	} {
		b := a
		change(&b)
		if device.Same(a, b) || device.Same(b, a) || !device.Same(b, b) {
			t.Errorf("%d: %v", i, b)
		}
	}
}

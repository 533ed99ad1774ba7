package machine_test

import (
	"math"
	"math/rand"
	"slices"
	"testing"

	"headstock/api"
	"headstock/hart"
	"headstock/machine"
)

// C1 to C5: long pasts by chance, by the words: each kind of choice, each effect, each end and each error comes about.
func TestLongPasts(t *testing.T) {
	c := &chance{Rand: rand.New(rand.NewSource(151))}
	type come struct {
		kind int
		err  api.Errno
	}
	seen, effects, ends := map[come]int{}, map[int]int{}, map[int]int{}
	accesses := 0
	for range 2000 {
		m := c.begun(t)
		first, script, done := m, []api.Choice(nil), 0
		for range c.Intn(150) {
			x := c.choice(m)
			if in, e, ok := next(m, x); ok && in.Op != 0 {
				effects[e.Kind]++
			}
			var err api.Errno
			m, err = does(t, m, x)
			script = append(script, x)
			seen[come{x.Kind, err}]++
			if err == api.OK {
				done++
			}
			for id := -1; id <= len(m.Harts); id++ {
				if got, want := machine.First(m, id), wantFirst(m, id); got != want {
					t.Fatalf("First(%d): %d, not %d, of %s", id, got, want, text(m))
				}
			}
		}
		if got, n := machine.Run(first, script); n != done || !isSame(got, m) {
			t.Fatalf("%v: %d, not %d: %s, not %s", script, n, done, text(got), text(m))
		}
		for _, end := range m.Ends {
			ends[end]++
		}
		accesses += len(m.Trace)
	}
	for _, x := range []come{
		{1, 0}, {1, api.ErrArg}, {1, api.ErrBusy}, {1, api.ErrFull}, {1, api.ErrEnded}, {2, 0}, {2, api.ErrArg}, {2, api.ErrAhead},
		{3, 0}, {3, api.ErrArg}, {4, 0}, {4, api.ErrArg}, {4, api.ErrNone}, {4, api.ErrEnded}, {5, 0}, {5, api.ErrArg}, {0, api.ErrArg}, {6, api.ErrArg},
	} {
		if seen[x] < 10 {
			t.Errorf("kind %d, error %d: %d times", x.kind, x.err, seen[x])
		}
	}
	for kind := api.EffectNone; kind <= api.EffectBad; kind++ {
		if effects[kind] < 30 {
			t.Errorf("effect %d: %d times", kind, effects[kind])
		}
	}
	for end := api.EndNot; end <= api.EndWhere; end++ {
		if ends[end] < 10 {
			t.Errorf("end %d: %d times", end, ends[end])
		}
	}
	if accesses < 1000 {
		t.Errorf("%d accesses", accesses)
	}
}

// next is what the instruction of a choice does; false: it is none of a hart's that goes on.
func next(m api.Machine, x api.Choice) (api.Instr, api.Effect, bool) {
	if x.Kind != api.ChoiceStep || x.Hart < 0 || x.Hart >= len(m.Harts) || m.Ends[x.Hart] != api.EndNot {
		return api.Instr{}, api.Effect{}, false
	}
	in, ok := instrAt(m, m.Harts[x.Hart].PC)
	if !ok {
		return api.Instr{}, api.Effect{}, false
	}
	_, e := hart.Step(m.Harts[x.Hart], x.Hart, in)
	return in, e, true
}

// everywhere is many machines that chance's choices come to.
func everywhere(t *testing.T, c *chance, machines, choices int) []api.Machine {
	t.Helper()
	var all []api.Machine
	for range machines {
		m := c.begun(t)
		for range choices {
			if got, err := machine.Do(m, c.choice(m)); err == api.OK {
				m = got
			}
			if c.Intn(4) == 0 {
				all = append(all, m)
			}
		}
	}
	return all
}

// C6: a hart's step changes no other hart, and nothing that another one has pending; it raises no line, and changes no code.
func TestStepIsItsOwn(t *testing.T) {
	c := &chance{Rand: rand.New(rand.NewSource(152))}
	for _, m := range everywhere(t, c, 100, 80) {
		for id := range m.Harts {
			got, err := machine.Do(m, step(id))
			if err != api.OK {
				continue
			}
			for other := range m.Harts {
				if other != id && (got.Harts[other] != m.Harts[other] || got.Ends[other] != m.Ends[other] || !slices.Equal(got.Memory.Pending[other], m.Memory.Pending[other])) {
					t.Fatalf("hart %d's step, hart %d: %s, of %s", id, other, text(got), text(m))
				}
			}
			if !slices.Equal(got.Lines, m.Lines) || !slices.Equal(got.Words, m.Words) {
				t.Fatalf("hart %d's step: %s, of %s", id, text(got), text(m))
			}
		}
	}
}

// C6: accesses are only added, at most one a choice, and by steps alone.
func TestAccessesAreAdded(t *testing.T) {
	c := &chance{Rand: rand.New(rand.NewSource(153))}
	for range 200 {
		m := c.begun(t)
		for range 100 {
			x := c.choice(m)
			got, err := machine.Do(m, x)
			if err != api.OK {
				continue
			}
			n := len(got.Trace) - len(m.Trace)
			if n < 0 || n > 1 || n == 1 && x.Kind != api.ChoiceStep || !slices.Equal(got.Trace[:len(m.Trace)], m.Trace) {
				t.Fatalf("%+v: %+v, of %+v", x, got.Trace, m.Trace)
			}
			if n == 1 && got.Trace[len(m.Trace)].Hart != x.Hart {
				t.Fatalf("%+v: %+v", x, got.Trace)
			}
			m = got
		}
	}
}

// goesNowhere tells whether a hart's next instruction goes to no memory, device or end.
func goesNowhere(m api.Machine, id int) bool {
	_, e, ok := next(m, step(id))
	return ok && (e.Kind == api.EffectNone || e.Kind == api.EffectWait)
}

// C6: steps of two harts that go to no memory, device or end may be done in either order.
func TestEitherOrder(t *testing.T) {
	c := &chance{Rand: rand.New(rand.NewSource(154))}
	count := 0
	for _, m := range everywhere(t, c, 400, 80) {
		for a := range m.Harts {
			for b := range m.Harts {
				if a == b || !goesNowhere(m, a) || !goesNowhere(m, b) {
					continue
				}
				count++
				one, two := behind(t, m, step(a), step(b)), behind(t, m, step(b), step(a))
				if !isSame(one, two) {
					t.Fatalf("harts %d and %d: %s, not %s", a, b, text(one), text(two))
				}
			}
		}
	}
	if count < 500 {
		t.Errorf("%d pairs", count)
	}
}

// C6: while a hart lets none in, it takes none, whatever is raised; and what it takes is above its level.
func TestTakesWhatItLetsIn(t *testing.T) {
	c := &chance{Rand: rand.New(rand.NewSource(155))}
	for _, m := range everywhere(t, c, 150, 60) {
		for i := range m.Lines {
			m.Lines[i].Raised = true
		}
		for id := range m.Harts {
			lets := slices.ContainsFunc(m.Lines, func(l api.Line) bool { return l.Hart == id && hart.Lets(m.Harts[id], l.Priority) })
			got, err := does(t, m, take(id))
			switch {
			case m.Ends[id] != api.EndNot:
				if err != api.ErrEnded {
					t.Fatalf("ended: %d", err)
				}
			case lets != (err == api.OK) || !lets && err != api.ErrNone:
				t.Fatalf("hart %d: %d, of %s", id, err, text(m))
			case lets && (hart.Lets(got.Harts[id], math.MaxInt) || m.Lines[got.Harts[id].Cause+1<<31].Priority <= m.Harts[id].Level):
				t.Fatalf("hart %d: %s, of %s", id, text(got), text(m))
			}
		}
	}
}

// C6, of programs: what all scripts of a few choices tell of two harts that store to one word and load the other one's.
func TestStoresAndLoads(t *testing.T) {
	code := func(between api.Instr) []api.Instr {
		var l []api.Instr
		for id := range 2 {
			l = append(l, lui(5, 0x20000), addi(6, 0, 1), sw(5, 6, 4*id), between, lw(7, 5, 4-4*id), ecall)
		}
		return l
	}
	for name, x := range map[string]struct {
		between api.Instr
		want    []bool
	}{
		"without fences": {wfi, []bool{true, true, true, true}},
		"with fences":    {fence, []bool{false, true, true, true}},
	} {
		m := some(t, 2, code(x.between)...)
		m.Harts[1].PC = 24
		told := make([]bool, 4)
		come := map[string]struct{}{}
		var goOn func(m api.Machine)
		goOn = func(m api.Machine) {
			mark := text(m)
			if _, found := come[mark]; found {
				return
			}
			come[mark] = struct{}{}
			if m.Ends[0] == api.EndCall && m.Ends[1] == api.EndCall {
				told[2*m.Harts[0].Regs[7]+m.Harts[1].Regs[7]] = true
				return
			}
			for id := range 2 {
				for _, c := range []api.Choice{step(id), drain(id, 0)} {
					if got, err := does(t, m, c); err == api.OK {
						goOn(got)
					}
				}
			}
		}
		goOn(m)
		if !slices.Equal(told, x.want) {
			t.Errorf("%s: %v, not %v", name, told, x.want)
		}
	}
}

// by lets chance choose among steps of all harts and drains, until all harts have ended.
func (c *chance) by(t *testing.T, m api.Machine) api.Machine {
	t.Helper()
	for range 500 {
		if !slices.Contains(m.Ends, api.EndNot) {
			return m
		}
		var script []api.Choice
		for range 100 {
			if id := c.Intn(len(m.Harts)); c.Intn(3) == 0 {
				script = append(script, drain(id, c.Intn(3)))
			} else {
				script = append(script, step(id))
			}
		}
		m, _ = machine.Run(m, script)
	}
	t.Fatalf("never at its end: %s", text(m))
	return m
}

// C3, C6, of programs: harts that each count a word up by reserving it lose none, whatever is chosen.
func TestReservedCount(t *testing.T) {
	c := &chance{Rand: rand.New(rand.NewSource(156))}
	m := some(t, 4,
		lui(5, 0x20000), addi(9, 0, 6),
		ins(api.InLr, 6, 5, 0, 0), addi(6, 6, 1), ins(api.InSc, 7, 5, 6, 0), ins(api.InBne, 0, 7, 0, -12),
		addi(9, 9, -1), ins(api.InBne, 0, 9, 0, -20), ecall)
	for range 20 {
		if got := c.by(t, m); got.Memory.Words[0] != 24 {
			t.Errorf("%d", got.Memory.Words[0])
		}
	}
}

// C3, C6, of programs: harts that wait for a ticket write 1 to 20, in this order.
func TestTickets(t *testing.T) {
	c := &chance{Rand: rand.New(rand.NewSource(157))}
	m := some(t, 4,
		lui(5, 0x20000), lui(8, 0x10000), addi(6, 0, 1), addi(9, 0, 5),
		ins(api.InAmoAdd, 7, 5, 6, 0), lw(10, 5, 4), ins(api.InBne, 0, 10, 7, -4), fence,
		lw(10, 5, 8), addi(10, 10, 1), sw(5, 10, 8), fence, sw(8, 10, 0),
		lw(10, 5, 4), addi(10, 10, 1), sw(5, 10, 4), fence, addi(9, 9, -1), ins(api.InBne, 0, 9, 0, -56), ecall)
	for range 20 {
		got := c.by(t, m)
		if len(got.Trace) != 20 {
			t.Fatalf("%d accesses", len(got.Trace))
		}
		for i, x := range got.Trace {
			if x != (api.Access{Hart: x.Hart, Write: true, N: i + 1}) {
				t.Fatalf("access %d: %+v", i, x)
			}
		}
	}
}

// C2 to C4, of programs: a handler reads what a uart was handed, and sends it; one of a greater priority comes between.
func TestHandlers(t *testing.T) {
	m := made(t, 1, api.Image{Memory: 1, Words: coded(t,
		addi(5, 0, 40), csrrw(0, 5, api.CsrVector), lui(8, 0x10000), addi(5, 0, 8), csrrs(0, 5, api.CsrStatus),
		wfi, jal(0, -4), wfi, wfi, wfi,
		// 40: an interrupt above its own level is let in meanwhile.
		csrrs(9, 0, api.CsrEPC), csrrs(10, 0, api.CsrCause), csrrs(11, 0, api.CsrLevel),
		addi(12, 0, 4), csrrw(0, 12, api.CsrLevel), csrrs(0, 5, api.CsrStatus),
		lw(13, 8, 0), sw(8, 13, 0), sw(8, 10, 4),
		csrrc(0, 5, api.CsrStatus), csrrw(0, 11, api.CsrLevel), csrrw(0, 9, api.CsrEPC), mret)},
		[]int{api.DeviceUart}, []api.Line{{Priority: 4}, {Priority: 5}, {Priority: 3}})
	m = behind(t, m, input(0, 65), input(0, 66), raise(0))
	fails(t, m, take(0), api.ErrNone)
	m = behind(t, m, steps(0, 6)...)
	m = behind(t, m, take(0))
	if m.Harts[0].PC != 40 || m.Harts[0].EPC != 24 {
		t.Fatalf("%+v", m.Harts[0])
	}
	m = behind(t, m, raise(0), raise(2))
	for range 6 {
		fails(t, m, take(0), api.ErrNone)
		m = behind(t, m, step(0))
	}
	// Its level keeps out what is not above it, and no more.
	fails(t, m, take(0), api.ErrNone)
	m = behind(t, m, raise(1))
	if machine.First(m, 0) != 1 {
		t.Fatalf("%d is first", machine.First(m, 0))
	}
	m = behind(t, m, steps(0, 7)...)
	want := []api.Access{{N: 65}, {Write: true, N: 65}, {Reg: 1, Write: true, N: -1 << 31}}
	if !slices.Equal(m.Trace, want) || m.Harts[0].PC != 24 {
		t.Fatalf("%+v, at %d", m.Trace, m.Harts[0].PC)
	}
	m = behind(t, m, take(0))
	m = behind(t, m, steps(0, 13)...)
	want = append(want, api.Access{N: 66}, api.Access{Write: true, N: 66}, api.Access{Reg: 1, Write: true, N: -1<<31 + 1})
	if !slices.Equal(m.Trace, want) || machine.First(m, 0) != 0 {
		t.Fatalf("%+v", m.Trace)
	}
}

// C5: a long script of many accesses.
func TestLongRun(t *testing.T) {
	m := some(t, 1, lui(5, 0x10000), addi(6, 6, 1), sw(5, 6, 0), jal(0, -8))
	got, done := machine.Run(m, steps(0, 60001))
	if done != 60001 || len(got.Trace) != 20000 || got.Devices[0].Sent != 20000 {
		t.Fatalf("%d, %d accesses", done, len(got.Trace))
	}
	for i, x := range got.Trace {
		if x != (api.Access{Write: true, N: i + 1}) {
			t.Fatalf("access %d: %+v", i, x)
		}
	}
}

// everyCall is what all calls told of a machine that tell a machine.
func everyCall(m api.Machine) []api.Machine {
	var l []api.Machine
	script := []api.Choice{raise(0), input(0, 67), input(1, 68)}
	for id := range m.Harts {
		script = append(script, step(id), drain(id, 0), take(id))
	}
	for _, c := range append(script, step(-1), api.Choice{}) {
		got, _ := machine.Do(m, c)
		l = append(l, got)
	}
	for _, n := range []int{0, 1, 4, len(script)} {
		got, _ := machine.Run(m, script[:n])
		l = append(l, got)
	}
	return l
}

// withRoom is the same with spare room behind each list, in which something stands.
func withRoom(m api.Machine) api.Machine {
	roomy := func(l []int) []int { return append(slices.Clone(l), 91, 92)[:len(l)] }
	out := api.Machine{
		Words:  roomy(m.Words),
		Harts:  append(slices.Clone(m.Harts), api.Hart{PC: 93})[:len(m.Harts)],
		Ends:   roomy(m.Ends),
		Memory: api.Memory{Words: roomy(m.Memory.Words), Reserved: roomy(m.Memory.Reserved)},
		Lines:  append(slices.Clone(m.Lines), api.Line{Hart: 94})[:len(m.Lines)],
		Trace:  append(slices.Clone(m.Trace), api.Access{Hart: 95})[:len(m.Trace)],
	}
	for _, l := range m.Memory.Pending {
		out.Memory.Pending = append(out.Memory.Pending, append(slices.Clone(l), api.Entry{At: 96})[:len(l)])
	}
	out.Memory.Pending = append(out.Memory.Pending, []api.Entry{{At: 97}})[:len(m.Memory.Pending)]
	for _, s := range m.Devices {
		s.Queue = roomy(s.Queue)
		out.Devices = append(out.Devices, s)
	}
	out.Devices = append(out.Devices, api.State{Kind: 98})[:len(m.Devices)]
	return out
}

// opened is a machine whose lists are as long as there is room.
func opened(m api.Machine) api.Machine {
	open := func(l []int) []int { return l[:cap(l)] }
	out := m
	out.Words, out.Ends, out.Memory.Words, out.Memory.Reserved = open(m.Words), open(m.Ends), open(m.Memory.Words), open(m.Memory.Reserved)
	out.Harts, out.Lines, out.Trace = m.Harts[:cap(m.Harts)], m.Lines[:cap(m.Lines)], m.Trace[:cap(m.Trace)]
	out.Memory.Pending, out.Devices = nil, nil
	for _, l := range m.Memory.Pending[:cap(m.Memory.Pending)] {
		out.Memory.Pending = append(out.Memory.Pending, l[:cap(l)])
	}
	for _, s := range m.Devices[:cap(m.Devices)] {
		s.Queue = open(s.Queue)
		out.Devices = append(out.Devices, s)
	}
	return out
}

// spoil writes into all of a machine, and into all that stands behind its lists.
func spoil(m api.Machine) {
	x := opened(m)
	for _, l := range [][]int{x.Words, x.Ends, x.Memory.Words, x.Memory.Reserved} {
		for i := range l {
			l[i] = 5555
		}
	}
	for _, l := range x.Memory.Pending {
		for i := range l {
			l[i] = api.Entry{At: 5555}
		}
	}
	for _, s := range x.Devices {
		for i := range s.Queue {
			s.Queue[i] = 5555
		}
	}
	for i := range x.Harts {
		x.Harts[i].PC = 5555
	}
	for i := range x.Lines {
		x.Lines[i].Hart = 5555
	}
	for i := range x.Trace {
		x.Trace[i].Hart = 5555
	}
	for i := range x.Memory.Pending {
		m.Memory.Pending[:cap(m.Memory.Pending)][i] = []api.Entry{{At: 5555}}
	}
	for i := range x.Devices {
		m.Devices[:cap(m.Devices)][i] = api.State{Kind: 5555}
	}
}

// someMachines have something in each list.
func someMachines(t *testing.T) []api.Machine {
	code := []api.Instr{lui(5, 0x20000), sw(5, 5, 0), sw(5, 5, 4), lui(6, 0x10000)}
	one := behind(t, some(t, 2, append(slices.Clone(code), sw(6, 5, 4))...), append(steps(0, 4), input(0, 65), input(0, 66), input(1, 1), raise(1))...)
	one.Harts[1].Status = 8
	two := behind(t, one, drain(0, 0), drain(0, 0), step(0), input(0, 67), step(1), step(1))
	three := behind(t, two, step(1), take(1), input(0, 68))
	four := behind(t, some(t, 3, append(slices.Clone(code), ins(api.InLr, 7, 5, 0, 0))...), append(append(steps(1, 2), drain(1, 0)), steps(1, 1)...)...)
	return []api.Machine{one, two, three, four, some(t, 1, ecall)}
}

// R3: what is handed in is not written into, nor is what stands behind its length.
func TestNotWritten(t *testing.T) {
	for _, m := range someMachines(t) {
		m = withRoom(m)
		before := flat(opened(m))
		everyCall(m)
		machine.First(m, 0)
		machine.Same(m, copyOf(m))
		machine.Same(copyOf(m), m)
		if !slices.Equal(flat(opened(m)), before) {
			t.Errorf("written into: %s", text(m))
		}
	}
	words, kinds := []int{1, 2, 3, 4}, []int{1, 2, 3}
	symbols := []api.Symbol{{Name: "a"}, {Name: "b"}, {Name: "c"}}
	lines := []api.Line{{Priority: 1, Raised: true}, {Priority: 2, Raised: true}, {Priority: 3, Raised: true}}
	made(t, 1, api.Image{Words: words[:3], Memory: 1, Symbols: symbols[:2]}, kinds[:2], lines[:2])
	if !slices.Equal(words, []int{1, 2, 3, 4}) || !slices.Equal(kinds, []int{1, 2, 3}) || symbols[2].Name != "c" || lines[0] != (api.Line{Priority: 1, Raised: true}) || !lines[1].Raised || !lines[2].Raised {
		t.Errorf("%v, %v, %v, %v", words, kinds, symbols, lines)
	}
}

// R3: who owns an answer may write into it, and who handed something in into that: no other answer is changed.
func TestOwn(t *testing.T) {
	for _, one := range someMachines(t) {
		m := withRoom(one)
		var want []api.Machine
		for _, told := range everyCall(m) {
			want = append(want, copyOf(told))
		}
		before := flat(opened(m))
		got := everyCall(m)
		for i, told := range got {
			spoil(told)
			for k := i + 1; k < len(got); k++ {
				if !isSame(got[k], want[k]) {
					t.Fatalf("answer %d changed answer %d: %s, not %s", i, k, text(got[k]), text(want[k]))
				}
			}
		}
		if !slices.Equal(flat(opened(m)), before) {
			t.Fatalf("an answer changed what was handed in: %s", text(m))
		}
		got = everyCall(m)
		spoil(m)
		for i := range got {
			if !isSame(got[i], want[i]) {
				t.Fatalf("what was handed in changed answer %d: %s, not %s", i, text(got[i]), text(want[i]))
			}
		}
	}
	words, lines := append(make([]int, 0, 9), 1, 2), append(make([]api.Line, 0, 9), api.Line{Priority: 1})
	m := made(t, 2, api.Image{Words: words, Memory: 2}, []int{1}, lines)
	other := made(t, 2, api.Image{Words: words, Memory: 2}, []int{1}, lines)
	want := copyOf(m)
	spoil(other)
	words[0], lines[0].Priority = 7, 7
	if !isSame(m, want) {
		t.Errorf("%s, not %s", text(m), text(want))
	}
}

// R3: lists of one answer may be grown, without a change of another one of it.
func TestGrown(t *testing.T) {
	for _, m := range someMachines(t) {
		for _, told := range everyCall(m) {
			want := flat(told)
			_, _, _, _ = append(told.Words, 6666), append(told.Ends, 6666), append(told.Memory.Words, 6666), append(told.Memory.Reserved, 6666)
			_, _, _, _ = append(told.Harts, api.Hart{PC: 6666}), append(told.Lines, api.Line{Hart: 6666}), append(told.Trace, api.Access{Hart: 6666}), append(told.Devices, api.State{Kind: 6666})
			for _, l := range told.Memory.Pending {
				_ = append(l, api.Entry{At: 6666})
			}
			for _, s := range told.Devices {
				_ = append(s.Queue, 6666)
			}
			if !slices.Equal(flat(told), want) {
				t.Fatalf("%s", text(told))
			}
		}
	}
}

// R4: what is told hangs on the machine alone that is handed in: of many, older ones go on, too, and are what they were.
func TestManyGoOn(t *testing.T) {
	c := &chance{Rand: rand.New(rand.NewSource(158))}
	all := []api.Machine{c.begun(t), c.begun(t), c.begun(t)}
	var kept []api.Machine
	for _, m := range all {
		kept = append(kept, copyOf(m))
	}
	for range 1500 {
		from := all[c.Intn(len(all))]
		m, _ := does(t, from, c.choice(from))
		all, kept = append(all, m), append(kept, copyOf(m))
	}
	for i, m := range all {
		if !isSame(m, kept[i]) {
			t.Fatalf("%s, not %s", text(m), text(kept[i]))
		}
	}
}

// R1: no call panics, not even of what no call told, and each ends.
func TestNoneFails(t *testing.T) {
	c := &chance{Rand: rand.New(rand.NewSource(159))}
	far := func() int {
		if c.Intn(2) == 0 {
			return c.Intn(6)
		}
		return farNumbers[c.Intn(len(farNumbers))]
	}
	some := func() []int {
		var l []int
		for range c.Intn(5) {
			l = append(l, far())
		}
		return l
	}
	for range 20000 {
		m := api.Machine{Words: coded(t, c.instr(), c.instr(), c.rare()), Ends: make([]int, c.Intn(4)), Memory: api.Memory{Words: some(), Reserved: some()}}
		if c.Intn(4) == 0 {
			m.Words, m.Ends = some(), some()
		}
		for range c.Intn(5) {
			h := api.Hart{PC: far(), Status: far(), Vector: far(), EPC: far(), Level: far()}
			for r := range h.Regs {
				h.Regs[r] = []int{far(), 0x20000000 + 4*c.Intn(5), 0x10000000 + 256*c.Intn(5)}[c.Intn(3)]
			}
			if c.Intn(2) == 0 {
				h.PC = 4 * c.Intn(3)
			}
			m.Harts = append(m.Harts, h)
		}
		for range c.Intn(5) {
			var l []api.Entry
			for _, at := range some() {
				l = append(l, api.Entry{At: at, N: far()})
			}
			m.Memory.Pending = append(m.Memory.Pending, l)
			m.Devices = append(m.Devices, api.State{Kind: far(), Regs: [4]int{far(), far(), far(), far()}, Queue: some(), Sent: far(), Raised: c.Intn(2) == 0})
			m.Lines = append(m.Lines, api.Line{Hart: far(), Priority: far(), Raised: c.Intn(2) == 0})
		}
		x := api.Choice{Kind: c.Intn(7), Hart: far(), Which: far(), N: far()}
		machine.Do(m, x)
		machine.Run(m, []api.Choice{x, {Kind: api.ChoiceTake, Hart: far()}, {Kind: api.ChoiceDrain, Hart: far(), Which: far()}, {Kind: api.ChoiceStep, Hart: far()}, {Kind: far(), Hart: far()}})
		machine.First(m, far())
		if !machine.Same(m, m) {
			t.Fatalf("not the same as itself: %s", text(m))
		}
		machine.New(far(), api.Image{Words: some(), Memory: far(), Symbols: []api.Symbol{{Name: "a", Place: far()}}}, some(), m.Lines)
	}
}

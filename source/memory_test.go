package source_test

import (
	"math/rand"
	"slices"
	"testing"

	"headstock/api"
	"headstock/source"
)

// copyOf is the same in other memory, but for trees.
func copyOf(s api.Source) api.Source {
	s.Program.Devices, s.Program.Resources, s.Program.Tasks = slices.Clone(s.Program.Devices), slices.Clone(s.Program.Resources), slices.Clone(s.Program.Tasks)
	s.Words, s.Owners, s.Devices, s.Raised, s.Works, s.Trace = slices.Clone(s.Words), slices.Clone(s.Owners), slices.Clone(s.Devices), slices.Clone(s.Raised), slices.Clone(s.Works), slices.Clone(s.Trace)
	for i := range s.Words {
		s.Words[i] = slices.Clone(s.Words[i])
	}
	for i := range s.Devices {
		s.Devices[i].Queue = slices.Clone(s.Devices[i].Queue)
	}
	for i := range s.Works {
		s.Works[i] = slices.Clone(s.Works[i])
		for k, w := range s.Works[i] {
			s.Works[i][k] = api.Work{Task: w.Task, Locals: slices.Clone(w.Locals), Left: slices.Clone(w.Left)}
		}
	}
	return s
}

// roomy is a list with spare room behind it, in which something stands.
func roomy[T any](l []T, more T) []T { return append(slices.Clone(l), more, more)[:len(l)] }

// withRoom is the same with spare room behind each list.
func withRoom(s api.Source) api.Source {
	s = copyOf(s)
	s.Program = programWithRoom(s.Program)
	for i := range s.Words {
		s.Words[i] = roomy(s.Words[i], 91)
	}
	for i := range s.Devices {
		s.Devices[i].Queue = roomy(s.Devices[i].Queue, 92)
	}
	for i, l := range s.Works {
		for k, w := range l {
			l[k].Locals, l[k].Left = roomy(w.Locals, 93), roomy(w.Left, api.Deed{Leave: 94})
		}
		s.Works[i] = roomy(l, api.Work{Task: 95, Locals: []int{95}, Left: []api.Deed{{Leave: 95}}})
	}
	s.Words, s.Owners, s.Devices = roomy(s.Words, []int{96}), roomy(s.Owners, 96), roomy(s.Devices, api.State{Kind: 96, Queue: []int{96}})
	s.Raised, s.Works, s.Trace = roomy(s.Raised, true), roomy(s.Works, []api.Work{{Task: 97}}), roomy(s.Trace, api.Access{N: 97})
	return s
}

func programWithRoom(p api.Program) api.Program {
	p.Devices, p.Resources = roomy(p.Devices, api.Device{Kind: 98}), roomy(p.Resources, api.Resource{Words: 98})
	p.Tasks = roomy(p.Tasks, api.Task{Hart: 98})
	return p
}

func open[T any](l []T) []T { return l[:cap(l)] }

// opened is a source whose lists are as long as there is room: lists in it are new where they are changed for that.
func opened(s api.Source) api.Source {
	s.Program.Devices, s.Program.Resources, s.Program.Tasks = open(s.Program.Devices), open(s.Program.Resources), open(s.Program.Tasks)
	s.Owners, s.Raised, s.Trace = open(s.Owners), open(s.Raised), open(s.Trace)
	words, devices, works := s.Words, s.Devices, s.Works
	s.Words, s.Devices, s.Works = nil, nil, nil
	for _, l := range open(words) {
		s.Words = append(s.Words, open(l))
	}
	for _, d := range open(devices) {
		d.Queue = open(d.Queue)
		s.Devices = append(s.Devices, d)
	}
	for _, l := range open(works) {
		var all []api.Work
		for _, w := range open(l) {
			all = append(all, api.Work{Task: w.Task, Locals: open(w.Locals), Left: open(w.Left)})
		}
		s.Works = append(s.Works, all)
	}
	return s
}

func fill[T any](l []T, with T) {
	for i := range l {
		l[i] = with
	}
}

// spoil writes into all lists of a source, and into all that stands behind them: into those within others first.
func spoil(s api.Source) {
	x := opened(s)
	for _, l := range x.Words {
		fill(l, 5555)
	}
	for _, d := range x.Devices {
		fill(d.Queue, 5555)
	}
	for _, l := range x.Works {
		for _, w := range l {
			fill(w.Locals, 5555)
			fill(w.Left, api.Deed{Leave: 5555})
		}
	}
	for _, l := range open(s.Works) {
		fill(open(l), api.Work{Task: 5555})
	}
	fill(open(s.Words), []int{5555})
	fill(open(s.Devices), api.State{Kind: 5555})
	fill(open(s.Works), []api.Work{{Task: 5555}})
	fill(x.Owners, 5555)
	fill(x.Raised, true)
	fill(x.Trace, api.Access{N: 5555})
	spoilProgram(s.Program)
}

func spoilProgram(p api.Program) {
	fill(open(p.Devices), api.Device{Kind: 5555})
	fill(open(p.Resources), api.Resource{Words: 5555})
	fill(open(p.Tasks), api.Task{Hart: 5555})
}

// everyCall is what all calls told of a source that tell a source.
func everyCall(s api.Source) []api.Source {
	var l []api.Source
	script := []api.Choice{raise(0), input(0, 67), input(1, 68), input(2, 1)}
	for id := range s.Works {
		script = append(script, step(id), step(id), take(id), step(id))
	}
	for _, c := range append(script, step(-1), api.Choice{}) {
		got, _ := source.Do(s, c)
		l = append(l, got)
	}
	for _, n := range []int{0, 1, 5, len(script)} {
		got, _ := source.Run(s, script[:n])
		l = append(l, got)
	}
	got, _ := source.Start(s.Program)
	return append(l, got)
}

// someSources have something in each list.
func someSources(t *testing.T) []api.Source {
	x := played(t, someText)
	all := []api.Source{x.s}
	for _, c := range []api.Choice{input(0, 65), input(0, 66), raise(5), raise(2), step(0), step(0), step(0), step(0), take(0), step(2), step(2), step(0), take(0), step(2), raise(7), raise(3), take(1), step(1)} {
		if x.does(c); c.Kind == api.ChoiceStep || c.Kind == api.ChoiceTake {
			all = append(all, x.s)
		}
	}
	return append(all, played(t, "harts 1").s)
}

// R3: what is handed in is not written into, nor is what stands behind its length.
func TestNotWritten(t *testing.T) {
	for _, s := range someSources(t) {
		s = withRoom(s)
		before, script := text(opened(s)), []api.Choice{step(0), take(0), {Kind: 9, N: 5}}
		everyCall(s)
		source.Run(s, script[:2])
		for hart, l := range s.Works {
			source.Level(s, hart)
			source.First(s, hart)
			for _, w := range l {
				source.Value(s, w, two(api.OpAdd, local("x"), at("a", num(1))))
			}
		}
		source.Same(s, copyOf(s))
		source.Same(copyOf(s), s)
		if text(opened(s)) != before || !slices.Equal(script, []api.Choice{step(0), take(0), {Kind: 9, N: 5}}) {
			t.Errorf("written into: %s", text(s))
		}
	}
}

// R3: who owns an answer may write into it, and who handed something in into that: no other answer is changed.
func TestOwn(t *testing.T) {
	for _, one := range someSources(t) {
		s := withRoom(one)
		var want []string
		for _, told := range everyCall(s) {
			want = append(want, text(told))
		}
		before := text(opened(s))
		got := everyCall(s)
		for i, told := range got {
			spoil(told)
			for k := i + 1; k < len(got); k++ {
				if text(got[k]) != want[k] {
					t.Fatalf("answer %d changed answer %d: %s, not %s", i, k, text(got[k]), want[k])
				}
			}
		}
		if text(opened(s)) != before {
			t.Fatalf("an answer changed what was handed in: %s, not %s", text(opened(s)), before)
		}
		got = everyCall(s)
		spoil(s)
		for i := range got {
			if text(got[i]) != want[i] {
				t.Fatalf("what was handed in changed answer %d: %s, not %s", i, text(got[i]), want[i])
			}
		}
	}
	p := programWithRoom(program(t, someText))
	s, _ := source.Start(p)
	other, _ := source.Start(p)
	want := text(s)
	spoil(other)
	if text(s) != want {
		t.Errorf("%s, not %s", text(s), want)
	}
	spoilProgram(p)
	if text(s) != want {
		t.Errorf("%s, not %s", text(s), want)
	}
}

// R3: lists of one answer may be grown, without a change of another one of it.
func TestGrown(t *testing.T) {
	for _, s := range someSources(t) {
		for _, told := range everyCall(withRoom(s)) {
			want := text(told)
			_, _, _ = append(told.Program.Devices, api.Device{Kind: 6666}), append(told.Program.Resources, api.Resource{Words: 6666}), append(told.Program.Tasks, api.Task{Hart: 6666})
			_, _, _ = append(told.Owners, 6666), append(told.Raised, true), append(told.Trace, api.Access{N: 6666})
			for _, l := range told.Words {
				_ = append(l, 6666)
			}
			for _, d := range told.Devices {
				_ = append(d.Queue, 6666)
			}
			for _, l := range told.Works {
				for _, w := range l {
					_, _ = append(w.Locals, 6666), append(w.Left, api.Deed{Leave: 6666})
				}
				_ = append(l, api.Work{Task: 6666})
			}
			_, _, _ = append(told.Words, []int{6666}), append(told.Devices, api.State{Kind: 6666}), append(told.Works, []api.Work{{Task: 6666}})
			if text(told) != want {
				t.Fatalf("%s, not %s", text(told), want)
			}
		}
	}
}

// R3: trees are written into by no call.
func TestTreesStay(t *testing.T) {
	c := &chance{Rand: rand.New(rand.NewSource(167))}
	for range 300 {
		p := program(t, c.program(3, 3, 2))
		var trees [][]api.Stmt
		for _, x := range p.Tasks {
			trees = append(trees, stmts(x.Body))
		}
		s, _ := source.Start(p)
		for range 80 {
			if got, err := source.Do(s, c.choice(s)); err == api.OK {
				s = got
			}
		}
		for i, x := range p.Tasks {
			other := p
			other.Tasks = slices.Clone(p.Tasks)
			other.Tasks[i].Body = trees[i]
			if text(api.Source{Program: other}) != text(api.Source{Program: p}) {
				t.Fatalf("%s: %+v, not %+v", x.Name, x.Body, trees[i])
			}
		}
		if text(api.Source{Program: s.Program}) != text(api.Source{Program: p}) {
			t.Fatalf("%+v, not %+v", s.Program, p)
		}
	}
}

// R4: what is told hangs on the source alone that is handed in: of many, older ones go on, too, and are what they were.
func TestManyGoOn(t *testing.T) {
	c := &chance{Rand: rand.New(rand.NewSource(168))}
	var all []*play
	for range 5 {
		all = append(all, played(t, c.program(3, 3, 2)))
	}
	var kept []string
	for _, x := range all {
		kept = append(kept, text(x.s))
	}
	for range 2000 {
		from := all[c.Intn(len(all))]
		x := &play{t, from.s, from.w.copied()}
		x.does(c.choice(x.s))
		x.asks()
		all, kept = append(all, x), append(kept, text(x.s))
	}
	for i, x := range all {
		if text(x.s) != kept[i] {
			t.Fatalf("%s, not %s", text(x.s), kept[i])
		}
	}
}

// R1: no call panics, not even of what no call told, and each ends.
func TestNoneFails(t *testing.T) {
	c := &chance{Rand: rand.New(rand.NewSource(169))}
	m := &nonsense{c, append([]int{0, 1, 2, 3, 4, 5, 6, 7, 8, 15, 16}, farNumbers...)}
	for i := range 12000 {
		s := m.source()
		if i%2 == 0 {
			s = m.broken(t)
		}
		for _, kind := range []int{api.ChoiceStep, api.ChoiceStep, api.ChoiceTake, api.ChoiceRaise, api.ChoiceInput, m.number()} {
			x := api.Choice{Kind: kind, Hart: m.number(), Which: m.number(), N: m.number()}
			source.Do(s, x)
			x.Hart, x.Which = c.Intn(3), c.Intn(3)
			got, err := source.Do(s, x)
			source.Run(s, []api.Choice{x, step(x.Hart), x, take(x.Hart), step(x.Hart), x})
			if err == api.OK && c.Intn(2) == 0 {
				s = got
			}
			source.Level(s, x.Hart)
			source.First(s, x.Hart)
			source.Level(s, m.number())
			source.First(s, m.number())
		}
		source.Value(s, m.work(), m.expr(3))
		for _, l := range s.Works {
			for _, w := range l {
				source.Value(s, w, m.expr(3))
			}
		}
		if !source.Same(s, s) {
			t.Fatalf("not the same as itself: %s", text(s))
		}
		source.Same(s, m.source())
		source.Start(s.Program)
	}
}

// nonsense makes sources that no call told.
type nonsense struct {
	*chance
	some []int
}

func (m *nonsense) number() int { return m.some[m.Intn(len(m.some))] }

func (m *nonsense) numbers() []int {
	var l []int
	for range m.Intn(5) {
		l = append(l, m.number())
	}
	return l
}

func (m *nonsense) name() string { return m.oneOf("", "a", "b", "d", "t", "h", "x", "y", "lock") }

func (m *nonsense) expr(deep int) api.Expr {
	e := api.Expr{Kind: m.Intn(7), Op: m.Intn(20) - 1, N: m.number(), Name: m.name()}
	for range m.Intn(3) {
		if deep > 0 {
			e.Args = append(e.Args, m.expr(deep-1))
		}
	}
	return e
}

func (m *nonsense) stmts(deep int) []api.Stmt {
	var l []api.Stmt
	for range m.Intn(4) {
		s := api.Stmt{Kind: m.Intn(10), Name: m.name(), From: m.name(), N: m.number()}
		for range m.Intn(3) {
			s.Args = append(s.Args, m.expr(2))
		}
		if deep > 0 {
			s.Then, s.Else = m.stmts(deep-1), m.stmts(deep-1)
		}
		l = append(l, s)
	}
	return l
}

func (m *nonsense) work() api.Work {
	w := api.Work{Task: m.number(), Locals: m.numbers()}
	for _, s := range m.stmts(2) {
		w.Left = append(w.Left, api.Deed{Stmt: s, Leave: m.number()})
	}
	return w
}

func (m *nonsense) source() api.Source {
	s := api.Source{Owners: m.numbers()}
	s.Program.Harts = m.number()
	for range m.Intn(4) {
		s.Program.Devices = append(s.Program.Devices, api.Device{Name: m.name(), Kind: m.Intn(5)})
		s.Program.Resources = append(s.Program.Resources, api.Resource{Name: m.name(), Words: m.number()})
		s.Program.Tasks = append(s.Program.Tasks, api.Task{Name: m.name(), Handler: m.Intn(2) == 0, Hart: m.number(), Priority: m.number(), Line: m.number(), Body: m.stmts(2)})
	}
	for range m.Intn(4) {
		s.Words = append(s.Words, m.numbers())
		s.Devices = append(s.Devices, api.State{Kind: m.Intn(5), Regs: [4]int{m.number(), m.number(), m.number(), m.number()}, Queue: m.numbers(), Sent: m.number()})
		var l []api.Work
		for range m.Intn(3) {
			l = append(l, m.work())
		}
		s.Works = append(s.Works, l)
		s.Trace = append(s.Trace, api.Access{Hart: m.number(), N: m.number()})
	}
	for range m.Intn(10) {
		s.Raised = append(s.Raised, m.Intn(2) == 0)
	}
	return s
}

// broken is a source that calls told, but for what was made of its lists then.
func (m *nonsense) broken(t *testing.T) api.Source {
	t.Helper()
	s, err := source.Start(program(t, m.program(3, 3, 2)))
	if err != api.OK {
		t.Fatal(err)
	}
	for range m.Intn(20) {
		if got, err := source.Do(s, m.choice(s)); err == api.OK {
			s = got
		}
	}
	for range 1 + m.Intn(3) {
		m.breaks(&s)
	}
	return s
}

func (m *nonsense) breaks(s *api.Source) {
	switch m.Intn(10) {
	case 0:
		s.Owners = m.numbers()
	case 1:
		s.Words = s.Words[:m.Intn(len(s.Words)+1)]
	case 2:
		for i := range s.Words {
			s.Words[i] = m.numbers()
		}
	case 3:
		s.Devices = s.Devices[:m.Intn(len(s.Devices)+1)]
	case 4:
		s.Raised = s.Raised[:m.Intn(len(s.Raised)+1)]
	case 5:
		s.Program.Tasks = s.Program.Tasks[:m.Intn(len(s.Program.Tasks)+1)]
	case 6:
		s.Program.Harts = m.number()
	case 7:
		s.Works = append(s.Works, []api.Work{m.work()})
	default:
		for _, l := range s.Works {
			for i := range l {
				m.breaksWork(&l[i])
			}
		}
	}
}

func (m *nonsense) breaksWork(w *api.Work) {
	switch m.Intn(4) {
	case 0:
		w.Task = m.number()
	case 1:
		w.Locals = m.numbers()
	case 2:
		for i := range w.Left {
			w.Left[i].Leave = m.number()
		}
	case 3:
		for i := range w.Left {
			w.Left[i].Stmt.Name, w.Left[i].Stmt.N = m.name(), m.number()
		}
	}
}

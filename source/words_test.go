package source_test

import (
	"fmt"
	"maps"
	"slices"
	"testing"

	"headstock/api"
	"headstock/device"
	"headstock/reader"
	"headstock/rule"
	"headstock/source"
	"headstock/wrap"
)

// What the chapter's words say, written out here by themselves: all is found by its name, and what a work is still to do stands as it comes, the next one first.

// world is a program that goes on.
type world struct {
	api.Program
	words   map[string][]int
	holders map[string]int // of nobody's none
	devices map[string]api.State
	raised  map[int]bool
	jobs    map[int][]job
	trace   []api.Access
}

// job is a work.
type job struct {
	task   api.Task
	locals map[string]int
	coming []coming
}

// coming is a statement; or, if there is a name, that the resource of that name is left.
type coming struct {
	api.Stmt
	left string
}

func statements(l []api.Stmt) []coming {
	var all []coming
	for _, s := range l {
		all = append(all, coming{Stmt: s})
	}
	return all
}

func newJob(x api.Task) job {
	j := job{x, map[string]int{}, statements(x.Body)}
	for _, name := range rule.Locals(x) {
		j.locals[name] = 0
	}
	return j
}

func newWorld(p api.Program) *world {
	w := &world{p, map[string][]int{}, map[string]int{}, map[string]api.State{}, map[int]bool{}, map[int][]job{}, nil}
	for _, r := range p.Resources {
		w.words[r.Name] = make([]int, r.Words)
	}
	for _, d := range p.Devices {
		w.devices[d.Name] = device.New(d.Kind)
	}
	for _, x := range p.Tasks {
		if !x.Handler {
			w.jobs[x.Hart] = []job{newJob(x)}
		}
	}
	return w
}

// copied is the same in other memory, but for what is never written into.
func (w *world) copied() *world {
	c := *w
	c.words, c.holders, c.devices, c.raised, c.jobs = maps.Clone(w.words), maps.Clone(w.holders), maps.Clone(w.devices), maps.Clone(w.raised), maps.Clone(w.jobs)
	for name, l := range c.words {
		c.words[name] = slices.Clone(l)
	}
	for hart, l := range c.jobs {
		c.jobs[hart] = slices.Clone(l)
		for i := range l {
			c.jobs[hart][i].locals = maps.Clone(l[i].locals)
		}
	}
	c.trace = slices.Clone(w.trace)
	return &c
}

// value is an expression's; false: it has none.
func (w *world) value(j job, e api.Expr) (int, bool) {
	var parts []int
	for _, x := range e.Args {
		n, ok := w.value(j, x)
		if !ok {
			return 0, false
		}
		parts = append(parts, n)
	}
	switch e.Kind {
	case 1:
		return int(int32(uint32(e.N))), true
	case 2:
		n, ok := j.locals[e.Name]
		return n, ok
	case 3:
		return wrap.One(e.Op, parts[0])
	case 4:
		return wrap.Two(e.Op, parts[0], parts[1])
	}
	for i, n := range w.words[e.Name] {
		if i == parts[0] {
			return n, true
		}
	}
	return 0, false
}

func (w *world) placeOf(x api.Task) int {
	return slices.IndexFunc(w.Tasks, func(y api.Task) bool { return y.Name == x.Name })
}

// locks tells whether these lock a resource up to that one, itself or another ahead.
func (w *world) locks(l []api.Stmt, upTo int) bool {
	return slices.ContainsFunc(l, func(s api.Stmt) bool {
		is := func(r api.Resource) bool { return s.Kind == 5 && r.Name == s.Name }
		return slices.ContainsFunc(w.Resources[:upTo+1], is) || w.locks(s.Then, upTo) || w.locks(s.Else, upTo)
	})
}

func (w *world) level(hart int) int {
	level := 0
	for _, j := range w.jobs[hart] {
		level = max(level, j.task.Priority)
	}
	for i, r := range w.Resources {
		if holder, ok := w.holders[r.Name]; !ok || holder != hart {
			continue
		}
		for _, x := range w.Tasks {
			if x.Hart == hart && w.locks(x.Body, i) {
				level = max(level, x.Priority)
			}
		}
	}
	return level
}

// first goes down through the priorities, and up through the lines.
func (w *world) first(hart int) int {
	for priority := 7; priority > w.level(hart); priority-- {
		for line := 0; line < 8; line++ {
			is := func(x api.Task) bool {
				return x.Handler && x.Line == line && x.Hart == hart && x.Priority == priority
			}
			if w.raised[line] && slices.ContainsFunc(w.Tasks, is) {
				return line
			}
		}
	}
	return -1
}

// choose does a choice; with an error nothing is done.
func (w *world) choose(c api.Choice) api.Errno {
	isHart := c.Hart >= 0 && c.Hart < w.Harts
	switch {
	case c.Kind == 1 && isHart:
		return w.step(c.Hart)
	case c.Kind == 3 && c.Which >= 0 && c.Which < 8:
		w.raised[c.Which] = true
		return 0
	case c.Kind == 4 && isHart:
		line := w.first(c.Hart)
		if line < 0 {
			return 101
		}
		delete(w.raised, line)
		for _, x := range w.Tasks {
			if x.Handler && x.Line == line {
				w.jobs[c.Hart] = append(slices.Clone(w.jobs[c.Hart]), newJob(x))
			}
		}
		return 0
	case c.Kind == 5 && c.Which >= 0 && c.Which < len(w.Devices):
		name := w.Devices[c.Which].Name
		w.devices[name] = device.Input(w.devices[name], c.N)
		return 0
	}
	return 1
}

func (w *world) step(hart int) api.Errno {
	l := w.jobs[hart]
	if len(l) == 0 {
		return 101
	}
	j := &l[len(l)-1]
	if len(j.coming) == 0 {
		w.jobs[hart] = l[:len(l)-1]
		return 0
	}
	now, rest := j.coming[0], j.coming[1:]
	if holder, ok := w.holders[now.Name]; now.Kind == 5 && ok && holder != hart {
		return 92
	}
	more, goesOn := w.does(hart, j, now)
	if !goesOn {
		rest = slices.DeleteFunc(slices.Clone(rest), func(x coming) bool { return x.left == "" })
	}
	j.coming = slices.Concat(more, rest)
	return 0
}

// does does what comes, and tells what is to come ahead of the rest; false: of the rest only what leaves resources stays.
func (w *world) does(hart int, j *job, x coming) ([]coming, bool) {
	var n []int
	for _, e := range x.Args {
		one, ok := w.value(*j, e)
		if !ok {
			return nil, false
		}
		n = append(n, one)
	}
	access := func(name string, write bool, n int) {
		which := slices.IndexFunc(w.Devices, func(d api.Device) bool { return d.Name == name })
		w.trace = append(w.trace, api.Access{Hart: hart, Device: which, Reg: x.N, Write: write, N: n})
	}
	switch x.Kind {
	case 0:
		delete(w.holders, x.left)
	case 1:
		j.locals[x.Name] = n[0]
	case 2:
		told, s := device.Read(w.devices[x.From], x.N)
		w.devices[x.From], j.locals[x.Name] = s, told
		access(x.From, false, told)
	case 3:
		w.devices[x.Name] = device.Write(w.devices[x.Name], x.N, n[0])
		access(x.Name, true, n[0])
	case 4:
		if n[0] < 0 || n[0] > len(w.words[x.Name])-1 {
			return nil, false
		}
		w.words[x.Name][n[0]] = n[1]
	case 5:
		w.holders[x.Name] = hart
		return append(statements(x.Then), coming{left: x.Name}), true
	case 6:
		if n[0] == 0 {
			return statements(x.Else), true
		}
		return statements(x.Then), true
	case 7:
		if x.N > 0 {
			x.N--
			return append(statements(x.Then), x), true
		}
	}
	return nil, x.Kind != 8
}

// told is the world as the package is to tell it.
func (w *world) told() api.Source {
	s := api.Source{Program: w.Program, Raised: make([]bool, 8), Works: make([][]api.Work, w.Harts), Trace: w.trace}
	for _, r := range w.Resources {
		s.Words = append(s.Words, w.words[r.Name])
		holder, ok := w.holders[r.Name]
		if !ok {
			holder = -1
		}
		s.Owners = append(s.Owners, holder)
	}
	for _, d := range w.Devices {
		s.Devices = append(s.Devices, w.devices[d.Name])
	}
	for line := range s.Raised {
		s.Raised[line] = w.raised[line]
	}
	for hart := range s.Works {
		for _, j := range w.jobs[hart] {
			s.Works[hart] = append(s.Works[hart], w.toldWork(j))
		}
	}
	return s
}

func (w *world) toldWork(j job) api.Work {
	work := api.Work{Task: w.placeOf(j.task)}
	for _, name := range rule.Locals(j.task) {
		work.Locals = append(work.Locals, j.locals[name])
	}
	for i := len(j.coming) - 1; i >= 0; i-- {
		d := api.Deed{Stmt: j.coming[i].Stmt, Leave: -1}
		if name := j.coming[i].left; name != "" {
			d.Leave = slices.IndexFunc(w.Resources, func(r api.Resource) bool { return r.Name == name })
		}
		work.Left = append(work.Left, d)
	}
	return work
}

// text is all of a source; of a list without elements it is the same, nil or not.
func text(s api.Source) string { return fmt.Sprintf("%+v", s) }

// state is all of a source but its program.
func state(s api.Source) string {
	s.Program = api.Program{}
	return text(s)
}

// isSame tells whether all of both is the same, by another way than the package's.
func isSame(a, b api.Source) bool { return text(a) == text(b) }

// play is a source with the world beside it, which goes along.
type play struct {
	t *testing.T
	s api.Source
	w *world
}

// program is a text's tree.
func program(t *testing.T, text string) api.Program {
	t.Helper()
	p, err, line := reader.Parse(text)
	if err != api.OK {
		t.Fatalf("%v, line %d: %s", err, line, text)
	}
	return p
}

// played is the beginning of a text's program.
func played(t *testing.T, text string) *play {
	t.Helper()
	p := program(t, text)
	s, err := source.Start(p)
	if err != api.OK {
		t.Fatalf("%v: %s", err, text)
	}
	x := &play{t, s, newWorld(p)}
	if want := x.w.told(); !isSame(s, want) {
		t.Fatalf("at first %+v, not %+v", s, want)
	}
	return x
}

// does does a choice, held against the words; with an error all stays.
func (x *play) does(c api.Choice) api.Errno {
	x.t.Helper()
	got, err := source.Do(x.s, c)
	wantErr := x.w.choose(c)
	want := x.w.told()
	if err != api.OK && !isSame(got, api.Source{}) {
		x.t.Fatalf("%+v: error %d, and beside it %+v", c, err, got)
	}
	if err == api.OK {
		x.s = got
	}
	if err != wantErr || state(x.s) != state(want) {
		x.t.Fatalf("%+v: %s, %d, not %s, %d", c, state(x.s), err, state(want), wantErr)
	}
	return err
}

// all does choices, each of which may be.
func (x *play) all(l ...api.Choice) {
	x.t.Helper()
	for i, c := range l {
		if err := x.does(c); err != api.OK {
			x.t.Fatalf("choice %d, %+v: %d, of %s", i, c, err, state(x.s))
		}
	}
}

// fails holds that a choice may not be.
func (x *play) fails(c api.Choice, err api.Errno) {
	x.t.Helper()
	if got := x.does(c); got != err {
		x.t.Errorf("%+v: %d, not %d, of %s", c, got, err, state(x.s))
	}
}

// asks holds what is told of the harts against the words.
func (x *play) asks() {
	x.t.Helper()
	for hart := -1; hart <= x.w.Harts; hart++ {
		level, first := x.w.level(hart), x.w.first(hart)
		if got := source.Level(x.s, hart); got != level {
			x.t.Fatalf("Level(%d): %d, not %d, of %s", hart, got, level, state(x.s))
		}
		if got := source.First(x.s, hart); got != first {
			x.t.Fatalf("First(%d): %d, not %d, of %s", hart, got, first, state(x.s))
		}
	}
}

// Choices.

func step(hart int) api.Choice      { return api.Choice{Kind: api.ChoiceStep, Hart: hart} }
func raise(which int) api.Choice    { return api.Choice{Kind: api.ChoiceRaise, Which: which} }
func take(hart int) api.Choice      { return api.Choice{Kind: api.ChoiceTake, Hart: hart} }
func input(which, n int) api.Choice { return api.Choice{Kind: api.ChoiceInput, Which: which, N: n} }

// steps are so many of a hart.
func steps(hart, times int) []api.Choice { return slices.Repeat([]api.Choice{step(hart)}, times) }

// ends goes on with a hart until it has no works, and is how many steps that took.
func (x *play) ends(hart int) int {
	x.t.Helper()
	for n := range 100000 {
		if len(x.s.Works[hart]) == 0 {
			return n
		}
		x.all(step(hart))
	}
	x.t.Fatalf("never at its end: %s", state(x.s))
	return 0
}

package ceiling_test

import (
	"math/rand"
	"reflect"
	"slices"
	"strconv"
	"testing"

	"headstock/api"
	"headstock/ceiling"
)

// maker makes programs by chance: what they lock is what counts.
type maker struct{ *rand.Rand }

// body is statements that may be where these resources, of so many, may be locked: from this one on.
func (m *maker) body(deep, from, all int) []api.Stmt {
	var l []api.Stmt
	for range m.Intn(4) {
		l = append(l, m.stmt(deep, from, all))
	}
	return l
}

func (m *maker) stmt(deep, from, all int) api.Stmt {
	one := []api.Expr{{Kind: api.ExprNum, N: m.Intn(2)}}
	if deep > 0 {
		switch kind := m.Intn(6); {
		case kind < 3 && from < all:
			r := from + m.Intn(all-from)
			return api.Stmt{Kind: api.StmtLock, Name: resourceName(r), Then: m.body(deep-1, r+1, all)}
		case kind == 3:
			return api.Stmt{Kind: api.StmtIf, Args: one, Then: m.body(deep-1, from, all), Else: m.body(deep-1, from, all)}
		case kind == 4:
			return api.Stmt{Kind: api.StmtRepeat, N: m.Intn(4), Then: m.body(deep-1, from, all)}
		}
	}
	if m.Intn(5) == 0 {
		return api.Stmt{Kind: api.StmtHalt}
	}
	return api.Stmt{Kind: api.StmtSet, Name: "x", Args: one}
}

// resourceName is that of the resource at a place: their order is not that of the bytes.
func resourceName(place int) string { return "r" + strconv.Itoa(9-place) }

// program is one that may be, of at most so many resources.
func (m *maker) program(resources int) api.Program {
	p := api.Program{Harts: 1 + m.Intn(4)}
	all := m.Intn(resources + 1)
	for i := range all {
		p.Resources = append(p.Resources, api.Resource{Name: resourceName(i), Words: 1 + m.Intn(8)})
	}
	lowest := make([]int, p.Harts)
	for hart := range p.Harts {
		if m.Intn(4) > 0 {
			lowest[hart] = 1 + m.Intn(4)
			p.Tasks = append(p.Tasks, api.Task{Name: "t" + strconv.Itoa(hart), Hart: hart, Priority: lowest[hart], Body: m.body(4, 0, all)})
		}
	}
	for i, line := range m.Perm(8)[:m.Intn(9)] {
		hart := m.Intn(p.Harts)
		x := api.Task{Name: "h" + strconv.Itoa(i), Handler: true, Hart: hart, Line: line, Body: m.body(3, 0, all)}
		x.Priority = lowest[hart] + 1 + m.Intn(7-lowest[hart])
		p.Tasks = append(p.Tasks, x)
	}
	m.Shuffle(len(p.Tasks), func(i, k int) { p.Tasks[i], p.Tasks[k] = p.Tasks[k], p.Tasks[i] })
	return p
}

// V1 to V3: programs by chance, by the words.
func TestByChance(t *testing.T) {
	m := &maker{rand.New(rand.NewSource(40))}
	for range 500 {
		p := m.program(api.MaxResources)
		if !told(p) {
			t.Fatalf("may not be:\n%s", short(p))
		}
		holds(t, p)
	}
}

// V1 to V3: programs by chance with something wrong: nothing is told of those that may not be.
func TestWrongByChance(t *testing.T) {
	m := &maker{rand.New(rand.NewSource(41))}
	found := map[bool]int{}
	for range 700 {
		p := m.program(api.MaxResources)
		if len(p.Tasks) == 0 || len(p.Resources) == 0 {
			continue
		}
		x := &p.Tasks[m.Intn(len(p.Tasks))]
		switch m.Intn(5) {
		case 0:
			x.Hart = m.Intn(6) - 1
		case 1:
			x.Priority = m.Intn(9)
		case 2:
			x.Line, x.Handler = m.Intn(9), true
		case 3:
			p.Resources[m.Intn(len(p.Resources))].Name = "r" + strconv.Itoa(m.Intn(10))
		default:
			m.Shuffle(len(p.Resources), func(i, k int) { p.Resources[i], p.Resources[k] = p.Resources[k], p.Resources[i] })
		}
		found[told(p)]++
		holds(t, p)
	}
	if found[true] < 100 || found[false] < 100 {
		t.Error(found)
	}
}

// heldSets are all sets of places below n, the set i by the bits of i.
func heldSets(n int) [][]int {
	all := make([][]int, 1<<n)
	for i := range all {
		for place := range n {
			if i>>place&1 == 1 {
				all[i] = append(all[i], place)
			}
		}
	}
	return all
}

// V4: whatever is held, no handler that locks one of these, or one ahead of these, starts.
func TestNoneStarts(t *testing.T) {
	m := &maker{rand.New(rand.NewSource(42))}
	kept, started := 0, 0
	for range 300 {
		p := m.program(5)
		for hart := range p.Harts {
			for _, held := range heldSets(len(p.Resources)) {
				priority := m.Intn(8)
				starts := ceiling.Starts(p, hart, ceiling.Level(p, hart, priority, held))
				for i, x := range p.Tasks {
					locks := ceiling.Locks(p, i)
					isBelow := len(held) > 0 && len(locks) > 0 && locks[0] <= slices.Max(held)
					if isBelow && slices.Contains(starts, i) {
						t.Fatalf("%s starts while %v are held:\n%s", x.Name, held, short(p))
					}
					if isBelow && x.Handler && x.Hart == hart && x.Priority > priority {
						kept++
					}
				}
				started += len(starts)
			}
		}
	}
	if kept < 1000 || started < 1000 {
		t.Error(kept, started)
	}
}

// V4: the more is held, the fewer start, and the higher the level is.
func TestFewerStart(t *testing.T) {
	m := &maker{rand.New(rand.NewSource(43))}
	for range 300 {
		p := m.program(4)
		sets := heldSets(len(p.Resources))
		for hart := range p.Harts {
			levels, starts := make([]int, len(sets)), make([][]int, len(sets))
			for i, held := range sets {
				m.Shuffle(len(held), func(i, k int) { held[i], held[k] = held[k], held[i] })
				levels[i] = ceiling.Level(p, hart, 1, held)
				starts[i] = ceiling.Starts(p, hart, levels[i])
			}
			for more := range sets {
				for less := range sets {
					if more&less != less {
						continue
					}
					isGone := func(x int) bool { return !slices.Contains(starts[more], x) }
					if rest := slices.DeleteFunc(slices.Clone(starts[less]), isGone); levels[more] < levels[less] || !slices.Equal(rest, starts[more]) {
						t.Fatalf("with %v %v at %d, with %v %v at %d:\n%s", sets[more], starts[more], levels[more], sets[less], starts[less], levels[less], short(p))
					}
				}
			}
		}
	}
}

// work is a task at work: what it is still to lock (its place and 1) or to leave (less these), and what it holds.
type work struct {
	task int
	left []int
	held []int
}

// way is what a task locks and leaves, one way through it, by chance; and whether it is at its end by halt.
func (m *maker) way(p api.Program, l []api.Stmt) ([]int, bool) {
	var all []int
	for _, s := range l {
		again, body := 1, s.Then
		switch s.Kind {
		case api.StmtHalt:
			return all, true
		case api.StmtRepeat:
			again = s.N
		case api.StmtIf:
			body = [][]api.Stmt{s.Then, s.Else}[m.Intn(2)]
		}
		place := 1 + slices.IndexFunc(p.Resources, func(r api.Resource) bool { return r.Name == s.Name })
		if s.Kind == api.StmtLock {
			all = append(all, place)
		}
		for range again {
			in, halts := m.way(p, body)
			all = append(all, in...)
			if halts && s.Kind == api.StmtLock {
				all = append(all, -place)
			}
			if halts {
				return all, true
			}
		}
		if s.Kind == api.StmtLock {
			all = append(all, -place)
		}
	}
	return all, false
}

// play is a program at work, by chance: on each hart tasks that interrupt one another.
type play struct {
	*maker
	t      *testing.T
	p      api.Program
	works  [][]work
	owners map[int]int
}

func (y *play) start(task int) {
	x := y.p.Tasks[task]
	left, _ := y.way(y.p, x.Body)
	y.works[x.Hart] = append(y.works[x.Hart], work{task: task, left: left})
}

// held is all that a hart holds.
func (y *play) held(hart int) []int {
	var l []int
	for _, w := range y.works[hart] {
		l = append(l, w.held...)
	}
	return l
}

// starts are those that may interrupt what a hart does.
func (y *play) starts(hart int) []int {
	priority := 0
	if l := y.works[hart]; len(l) > 0 {
		priority = y.p.Tasks[l[len(l)-1].task].Priority
	}
	return ceiling.Starts(y.p, hart, ceiling.Level(y.p, hart, priority, y.held(hart)))
}

// goes lets the last one at work on a hart go on, and tells whether it does: it waits while another hart holds what it is to lock.
func (y *play) goes(hart int) bool {
	l := y.works[hart]
	if len(l) == 0 {
		return false
	}
	w := &l[len(l)-1]
	if len(w.left) == 0 {
		if len(w.held) > 0 {
			y.t.Fatalf("at its end it holds %v", w.held)
		}
		y.works[hart] = l[:len(l)-1]
		return true
	}
	place := max(w.left[0], -w.left[0]) - 1
	if w.left[0] < 0 {
		delete(y.owners, place)
		w.held = w.held[:len(w.held)-1]
	} else {
		owner, isHeld := y.owners[place]
		if held := y.held(hart); isHeld && owner == hart || len(held) > 0 && slices.Max(held) >= place {
			y.t.Fatalf("hart %d comes to %d while it holds %v:\n%s", hart, place, held, short(y.p))
		}
		if isHeld {
			return false
		}
		y.owners[place] = hart
		w.held = append(w.held, place)
	}
	w.left = w.left[1:]
	return true
}

// V4: no two tasks of a hart are within one section, no hart comes to a resource while it holds one behind that, harts never wait for one another in a ring, and no more are at work than Chain tells, but so many.
func TestPlay(t *testing.T) {
	m := &maker{rand.New(rand.NewSource(44))}
	waits, interrupts := 0, 0
	for range 1500 {
		p := m.program(4)
		y := &play{m, t, p, make([][]work, p.Harts), map[int]int{}}
		for i, x := range p.Tasks {
			if !x.Handler {
				y.start(i)
			}
		}
		for n := 0; n < 40 || slices.ContainsFunc(y.works, func(l []work) bool { return len(l) > 0 }); n++ {
			if hart := m.Intn(p.Harts); n < 40 && m.Intn(3) == 0 {
				if l := y.starts(hart); len(l) > 0 {
					y.start(l[m.Intn(len(l))])
					interrupts++
				}
				if len(y.works[hart]) > ceiling.Chain(p, hart) {
					t.Fatalf("hart %d: %d at work:\n%s", hart, len(y.works[hart]), short(p))
				}
			}
			order := m.Perm(p.Harts)
			i := slices.IndexFunc(order, y.goes)
			if i < 0 && slices.ContainsFunc(y.works, func(l []work) bool { return len(l) > 0 }) {
				t.Fatalf("none goes on:\n%s", short(p))
			}
			waits += max(0, i)
		}
	}
	if waits < 1000 || interrupts < 1000 {
		t.Error(waits, interrupts)
	}
}

// V3: so many as Chain tells are at work, if each is interrupted before it holds anything, by one of the lowest priority that may.
func TestChainIsReached(t *testing.T) {
	m := &maker{rand.New(rand.NewSource(45))}
	for range 1000 {
		p := m.program(4)
		for hart := range p.Harts {
			level, n := 0, 0
			if i := slices.IndexFunc(p.Tasks, func(x api.Task) bool { return !x.Handler && x.Hart == hart }); i >= 0 {
				level, n = p.Tasks[i].Priority, 1
			}
			for l := ceiling.Starts(p, hart, level); len(l) > 0 && n <= api.MaxTasks; l = ceiling.Starts(p, hart, level) {
				level = ceiling.Level(p, hart, p.Tasks[l[len(l)-1]].Priority, nil)
				n++
			}
			if got := ceiling.Chain(p, hart); got != n {
				t.Fatalf("hart %d: %d, not %d:\n%s", hart, got, n, short(p))
			}
		}
	}
}

// spare is a list with room behind it, in which something stands; opened is a copy with that.
func spare[T any](l []T, more T) []T { return append(slices.Clone(l), more, more)[:len(l)] }
func opened[T any](l []T) []T        { return slices.Clone(l[:len(l)+2]) }

func spareStmts(l []api.Stmt) []api.Stmt {
	l = spare(l, api.Stmt{Kind: api.StmtLock, Name: "more"})
	for i, s := range l {
		l[i].Args = spare(s.Args, api.Expr{Name: "more"})
		l[i].Then, l[i].Else = spareStmts(s.Then), spareStmts(s.Else)
	}
	return l
}

func openedStmts(l []api.Stmt) []api.Stmt {
	all := opened(l)
	for i, s := range l {
		all[i].Args, all[i].Then, all[i].Else = opened(s.Args), openedStmts(s.Then), openedStmts(s.Else)
	}
	return all
}

func openedProgram(p api.Program) api.Program {
	all := api.Program{Harts: p.Harts, Resources: opened(p.Resources), Tasks: opened(p.Tasks)}
	for i, x := range p.Tasks {
		all.Tasks[i].Body = openedStmts(x.Body)
	}
	return all
}

// R3: what is handed in is not written into, nor what stands behind its length; and that is not read.
func TestNotWritten(t *testing.T) {
	m := &maker{rand.New(rand.NewSource(46))}
	for range 300 {
		p := m.program(api.MaxResources)
		p.Resources = spare(p.Resources, api.Resource{Name: "more"})
		p.Tasks = spare(p.Tasks, api.Task{Name: "more", Handler: true, Priority: 7})
		for i, x := range p.Tasks {
			p.Tasks[i].Body = spareStmts(x.Body)
		}
		held := spare([]int{3, 1, 9, -1, 2, 1}, 0)
		before, heldBefore := openedProgram(p), opened(held)
		holds(t, p)
		for hart := range p.Harts {
			if got, want := ceiling.Level(p, hart, 1, held), wantLevel(p, hart, 1, held); got != want {
				t.Fatalf("%d, not %d:\n%s", got, want, short(p))
			}
		}
		if !reflect.DeepEqual(openedProgram(p), before) || !slices.Equal(opened(held), heldBefore) {
			t.Fatal(short(p))
		}
	}
}

// R3: who owns an answer may write into it and grow it; no other answer, and no other list of it, is changed by that.
func TestOwn(t *testing.T) {
	p := program(t, someText)
	calls := []func() [][]int{
		func() [][]int { return ceiling.Ceilings(p) },
		func() [][]int { return [][]int{ceiling.Locks(p, 4), ceiling.Locks(p, 5)} },
		func() [][]int { return [][]int{ceiling.Starts(p, 0, 0), ceiling.Starts(p, 2, 0)} },
	}
	for i, call := range calls {
		a, b, want := call(), call(), call()
		for k := range want {
			want[k] = slices.Clone(want[k])
		}
		for k := range a {
			a[k] = append(a[k], 99, 99)
			a[k] = a[k][:cap(a[k])]
			for n := range a[k] {
				a[k][n] = 99
			}
			if rest := a[k+1:]; !slices.EqualFunc(rest, want[k+1:], same) {
				t.Errorf("%d: list %d changed another one: %v", i, k, rest)
			}
		}
		for k := range a {
			a[k] = append(a[k][:0], 98)
		}
		if c := call(); !slices.EqualFunc(b, want, same) || !slices.EqualFunc(c, want, same) {
			t.Errorf("%d: %v, %v, not %v", i, b, c, want)
		}
	}
}

package rule_test

import (
	"maps"
	"math/rand"
	"reflect"
	"slices"
	"strconv"
	"testing"

	"headstock/api"
	"headstock/rule"
)

// maker makes programs by chance.
type maker struct {
	*rand.Rand
	devices, resources []string
}

func num(n int) api.Expr         { return api.Expr{Kind: api.ExprNum, N: n} }
func local(name string) api.Expr { return api.Expr{Kind: api.ExprVar, Name: name} }
func at(name string, e api.Expr) api.Expr {
	return api.Expr{Kind: api.ExprAt, Name: name, Args: []api.Expr{e}}
}

func oneOf[T any](m *maker, l []T) T { return l[m.Intn(len(l))] }

// expr is an expression that may be where these resources hold.
func (m *maker) expr(deep int, in []string) api.Expr {
	kind := m.Intn(5)
	if deep == 0 {
		kind = m.Intn(2)
	}
	switch kind {
	case 0:
		return num(m.Intn(9))
	case 1:
		return local(oneOf(m, []string{"x", "y", "z"}))
	case 2:
		return api.Expr{Kind: api.ExprOne, Op: api.OpNeg + m.Intn(3), Args: []api.Expr{m.expr(deep-1, in)}}
	case 3:
		if len(in) > 0 {
			return at(oneOf(m, in), m.expr(deep-1, in))
		}
	}
	return api.Expr{Kind: api.ExprTwo, Op: 1 + m.Intn(14), Args: []api.Expr{m.expr(deep-1, in), m.expr(deep-1, in)}}
}

// body is statements that may be where these resources hold.
func (m *maker) body(deep int, in []string) []api.Stmt {
	var l []api.Stmt
	for range m.Intn(4) {
		l = append(l, m.stmt(deep, in))
	}
	return l
}

func (m *maker) stmt(deep int, in []string) api.Stmt {
	e, name := m.expr(3, in), oneOf(m, []string{"x", "y", "z"})
	kind := 1 + m.Intn(8)
	if deep == 0 {
		kind = 1 + m.Intn(4)
	}
	switch kind {
	case api.StmtGet:
		if len(m.devices) > 0 {
			return api.Stmt{Kind: api.StmtGet, Name: name, From: oneOf(m, m.devices), N: m.Intn(4)}
		}
	case api.StmtPut:
		if len(m.devices) > 0 {
			return api.Stmt{Kind: api.StmtPut, Name: oneOf(m, m.devices), N: m.Intn(4), Args: []api.Expr{e}}
		}
	case api.StmtStore:
		if len(in) > 0 {
			return api.Stmt{Kind: api.StmtStore, Name: oneOf(m, in), Args: []api.Expr{m.expr(2, in), e}}
		}
	case api.StmtLock:
		if r := m.behind(in); len(r) > 0 {
			name := oneOf(m, r)
			return api.Stmt{Kind: api.StmtLock, Name: name, Then: m.body(deep-1, append(slices.Clone(in), name))}
		}
	case api.StmtIf:
		return api.Stmt{Kind: api.StmtIf, Args: []api.Expr{e}, Then: m.body(deep-1, in), Else: m.body(deep-1, in)}
	case api.StmtRepeat:
		return api.Stmt{Kind: api.StmtRepeat, N: m.Intn(21), Then: m.body(deep-1, in)}
	case api.StmtHalt:
		return api.Stmt{Kind: api.StmtHalt}
	}
	return api.Stmt{Kind: api.StmtSet, Name: name, Args: []api.Expr{e}}
}

// behind are the resources that may be locked where these hold.
func (m *maker) behind(in []string) []string {
	if len(in) == 0 {
		return m.resources
	}
	return m.resources[slices.Index(m.resources, in[len(in)-1])+1:]
}

// program is one that may be.
func (m *maker) program() api.Program {
	m.devices, m.resources = nil, nil
	p := api.Program{Harts: 1 + m.Intn(4)}
	for i := range m.Intn(4) {
		m.devices = append(m.devices, "d"+strconv.Itoa(i))
		p.Devices = append(p.Devices, api.Device{Name: m.devices[i], Kind: 1 + m.Intn(3)})
	}
	for i := range m.Intn(5) {
		m.resources = append(m.resources, "r"+strconv.Itoa(i))
		p.Resources = append(p.Resources, api.Resource{Name: m.resources[i], Words: 1 + m.Intn(8)})
	}
	m.Shuffle(len(m.resources), func(i, k int) {
		m.resources[i], m.resources[k] = m.resources[k], m.resources[i]
		p.Resources[i], p.Resources[k] = p.Resources[k], p.Resources[i]
	})
	for i := range p.Harts {
		if m.Intn(3) > 0 {
			p.Tasks = append(p.Tasks, api.Task{Name: "t" + strconv.Itoa(i), Hart: i, Priority: 1 + m.Intn(3), Body: m.body(3, nil)})
		}
	}
	for i, line := range m.Perm(8)[:m.Intn(5)] {
		p.Tasks = append(p.Tasks, api.Task{Name: "h" + strconv.Itoa(i), Handler: true, Hart: m.Intn(p.Harts), Priority: 4 + m.Intn(4), Line: line, Body: m.body(3, nil)})
	}
	m.Shuffle(len(p.Tasks), func(i, k int) { p.Tasks[i], p.Tasks[k] = p.Tasks[k], p.Tasks[i] })
	return p
}

// gap is where a statement may be put in, or taken out: a place of a list, with the task and the number that one there has.
type gap struct {
	list  *[]api.Stmt
	place int
	where [2]int
	in    []string
}

// hole is where an expression is.
type hole struct {
	*api.Expr
	where [2]int
	in    []string
}

// finder finds all gaps and holes of a task.
type finder struct {
	task, number int
	gaps         []gap
	holes        []hole
}

func (f *finder) stmts(l *[]api.Stmt, in []string) {
	for i := range *l {
		s := &(*l)[i]
		f.gaps = append(f.gaps, gap{l, i, [2]int{f.task, f.number}, in})
		f.exprs(s.Args, in)
		f.number++
		inner := in
		if s.Kind == api.StmtLock {
			inner = append(slices.Clone(in), s.Name)
		}
		if s.Kind == api.StmtLock || s.Kind == api.StmtRepeat || s.Kind == api.StmtIf {
			f.stmts(&s.Then, inner)
		}
		if s.Kind == api.StmtIf {
			f.stmts(&s.Else, inner)
		}
	}
	f.gaps = append(f.gaps, gap{l, len(*l), [2]int{f.task, f.number}, in})
}

func (f *finder) exprs(l []api.Expr, in []string) {
	for i := range l {
		f.holes = append(f.holes, hole{&l[i], [2]int{f.task, f.number}, in})
		f.exprs(l[i].Args, in)
	}
}

func find(p api.Program) ([]gap, []hole) {
	var f finder
	for i := range p.Tasks {
		f.task, f.number = i, 0
		f.stmts(&p.Tasks[i].Body, nil)
	}
	return f.gaps, f.holes
}

// U3: where a program may be, it may be with any of its statements left out, and with its tasks in another order.
func TestLess(t *testing.T) {
	m := &maker{Rand: rand.New(rand.NewSource(30))}
	out := 0
	for range 1500 {
		p := m.program()
		checks(t, p, api.OK, 0, 0)
		gaps, _ := find(p)
		for _, g := range gaps {
			if old := *g.list; g.place < len(old) {
				*g.list = slices.Delete(slices.Clone(old), g.place, g.place+1)
				checks(t, p, api.OK, 0, 0)
				*g.list = old
				out++
			}
		}
		for range 5 {
			m.Shuffle(len(p.Tasks), func(i, k int) { p.Tasks[i], p.Tasks[k] = p.Tasks[k], p.Tasks[i] })
			checks(t, p, api.OK, 0, 0)
		}
	}
	if out < 10000 {
		t.Error(out)
	}
}

// wrongOnes are statements that may not be where these resources hold, each with its error.
func (m *maker) wrongOnes(p api.Program, in []string) map[api.Errno][]api.Stmt {
	devices, resources, tasks := namesOf(p)
	l := map[api.Errno][]api.Stmt{}
	add := func(err api.Errno, s api.Stmt) { l[err] = append(l[err], s) }
	one := []api.Expr{num(1)}
	for _, name := range slices.Concat(devices, resources, tasks) {
		add(api.ErrTwice, api.Stmt{Kind: api.StmtSet, Name: name, Args: one})
		add(api.ErrTwice, api.Stmt{Kind: api.StmtGet, Name: name, From: "none"})
	}
	for _, name := range slices.Concat([]string{"none", "x"}, resources, tasks) {
		add(api.ErrUnknown, api.Stmt{Kind: api.StmtGet, Name: "x", From: name})
		add(api.ErrUnknown, api.Stmt{Kind: api.StmtPut, Name: name, N: 3, Args: one})
	}
	for _, name := range slices.Concat([]string{"none", "x"}, devices, tasks) {
		add(api.ErrUnknown, api.Stmt{Kind: api.StmtLock, Name: name, Then: []api.Stmt{{Kind: api.StmtHalt}}})
		add(api.ErrUnknown, api.Stmt{Kind: api.StmtStore, Name: name, Args: slices.Concat(one, one)})
	}
	for _, name := range resources {
		if !slices.Contains(m.behind(in), name) {
			add(api.ErrOrder, api.Stmt{Kind: api.StmtLock, Name: name})
		}
		if !slices.Contains(in, name) {
			add(api.ErrFree, api.Stmt{Kind: api.StmtStore, Name: name, Args: slices.Concat(one, one)})
		}
	}
	return l
}

// wrongParts are expressions that may not be where these resources hold, each with its error.
func (m *maker) wrongParts(p api.Program, in []string) map[api.Errno][]api.Expr {
	devices, resources, tasks := namesOf(p)
	l := map[api.Errno][]api.Expr{}
	for _, name := range slices.Concat(devices, resources, tasks) {
		l[api.ErrTwice] = append(l[api.ErrTwice], local(name))
	}
	for _, name := range slices.Concat([]string{"none", "x"}, devices, tasks) {
		l[api.ErrUnknown] = append(l[api.ErrUnknown], at(name, num(0)))
	}
	for _, name := range resources {
		if !slices.Contains(in, name) {
			l[api.ErrFree] = append(l[api.ErrFree], at(name, num(0)))
		}
	}
	return l
}

// U3: one wrong statement, or expression, put anywhere, is told, at its place.
func TestOneWrong(t *testing.T) {
	m := &maker{Rand: rand.New(rand.NewSource(31))}
	found := map[api.Errno]int{}
	for range 300 {
		p := m.program()
		gaps, holes := find(p)
		for _, g := range gaps {
			l := m.wrongOnes(p, g.in)
			for _, err := range slices.Sorted(maps.Keys(l)) {
				old := *g.list
				*g.list = slices.Insert(slices.Clone(old), g.place, oneOf(m, l[err]))
				checks(t, p, err, g.where[0], g.where[1])
				*g.list = old
				found[err]++
			}
		}
		for _, h := range holes {
			l := m.wrongParts(p, h.in)
			for _, err := range slices.Sorted(maps.Keys(l)) {
				old := *h.Expr
				*h.Expr = oneOf(m, l[err])
				checks(t, p, err, h.where[0], h.where[1])
				if len(old.Args) > 0 && h.Kind == api.ExprAt {
					h.Args = old.Args[:1]
					checks(t, p, err, h.where[0], h.where[1])
				}
				*h.Expr = old
				found[err]++
			}
		}
		checks(t, p, api.OK, 0, 0)
	}
	for _, err := range []api.Errno{api.ErrTwice, api.ErrUnknown, api.ErrOrder, api.ErrFree} {
		if found[err] < 1000 {
			t.Error(err, found[err])
		}
	}
}

// U3: one wrong task, put anywhere, is told, at its place; a name that another one has is told of no place.
func TestOneWrongTask(t *testing.T) {
	m := &maker{Rand: rand.New(rand.NewSource(32))}
	found := map[api.Errno]int{}
	for range 700 {
		p := m.program()
		all := p.Tasks
		for i := range len(all) + 1 {
			put := func(x api.Task, err api.Errno, where int) {
				p.Tasks = slices.Insert(slices.Clone(all), i, x)
				checks(t, p, err, where, 0)
				found[err]++
			}
			if p.Harts < api.MaxHarts {
				put(api.Task{Name: "n", Hart: p.Harts, Priority: 1}, api.ErrHart, i)
				put(api.Task{Name: "n", Handler: true, Hart: 3, Priority: 7}, api.ErrHart, i)
			}
			for k, x := range all {
				later := k + 1
				if k < i {
					later = i
				}
				if x.Handler {
					put(api.Task{Name: "n", Handler: true, Hart: x.Hart, Priority: 7, Line: x.Line}, api.ErrLine, later)
				} else {
					put(api.Task{Name: "n", Hart: x.Hart, Priority: 1}, api.ErrHart, later)
					line := slices.IndexFunc([]int{0, 1, 2, 3, 4, 5, 6, 7}, func(n int) bool {
						return !slices.ContainsFunc(all, func(y api.Task) bool { return y.Handler && y.Line == n })
					})
					put(api.Task{Name: "n", Handler: true, Hart: x.Hart, Priority: 1 + m.Intn(x.Priority), Line: line}, api.ErrBelow, i)
				}
				x.Name = oneOf(m, all).Name
				p.Tasks = slices.Insert(slices.Clone(all), i, x)
				checks(t, p, api.ErrTwice, 0, 0)
			}
		}
	}
	for _, err := range []api.Errno{api.ErrHart, api.ErrLine, api.ErrBelow} {
		if found[err] < 500 {
			t.Error(err, found[err])
		}
	}
}

// U2: what is wrong at several places, by chance: the first one is told.
func TestManyWrong(t *testing.T) {
	m := &maker{Rand: rand.New(rand.NewSource(33))}
	found := map[api.Errno]int{}
	for range 20000 {
		p := m.program()
		gaps, holes := find(p)
		names := slices.Concat(slices.Concat(m.devices, m.resources), []string{"none", "x"})
		for range 1 + m.Intn(3) {
			if len(gaps) > 0 {
				g := oneOf(m, gaps)
				for i := range *g.list {
					if s := &(*g.list)[i]; s.Name != "" && m.Intn(2) == 0 {
						s.Name = oneOf(m, names)
					}
				}
			}
			if len(holes) > 0 {
				h := oneOf(m, holes)
				if h.Name != "" {
					h.Name = oneOf(m, names)
				}
			}
		}
		if len(p.Tasks) > 1 && m.Intn(5) == 0 {
			i := m.Intn(len(p.Tasks))
			p.Tasks[i].Hart, p.Tasks[i].Priority = m.Intn(4), 1+m.Intn(7)
		}
		want := firstFault(p)
		checks(t, p, want.err, want.at[0], want.at[1])
		found[want.err]++
	}
	for _, err := range []api.Errno{api.OK, api.ErrTwice, api.ErrHart, api.ErrBelow, api.ErrUnknown, api.ErrOrder, api.ErrFree} {
		if found[err] < 20 {
			t.Error(err, found[err])
		}
	}
}

// U1: the locals of programs by chance.
func TestLocalsByChance(t *testing.T) {
	m := &maker{Rand: rand.New(rand.NewSource(34))}
	for range 3000 {
		for _, x := range m.program().Tasks {
			if got := rule.Locals(x); !slices.Equal(got, localsOf(x)) {
				t.Fatalf("%q, not %q:\n%s", got, localsOf(x), short(api.Program{Harts: 1, Tasks: []api.Task{x}}))
			}
		}
	}
}

// anyExpr and anyStmt have anything in any field.
func (m *maker) anyExpr(deep int) api.Expr {
	e := api.Expr{Kind: m.Intn(7), Op: m.Intn(3), N: m.Intn(3) - 1, Name: oneOf(m, []string{"", "x", "a", "lock"})}
	for range m.Intn(3) * min(deep, 1) {
		e.Args = append(e.Args, m.anyExpr(deep-1))
	}
	return e
}

func (m *maker) anyStmt(deep int) api.Stmt {
	s := api.Stmt{Kind: m.Intn(10), N: m.Intn(3) - 1, Name: oneOf(m, []string{"", "x", "a", "if"}), From: oneOf(m, []string{"", "a"})}
	for range m.Intn(3) {
		s.Args = append(s.Args, m.anyExpr(3))
	}
	for range m.Intn(3) * min(deep, 1) {
		s.Then, s.Else = append(s.Then, m.anyStmt(deep-1)), append(s.Else, m.anyStmt(deep-1))
	}
	return s
}

// R1: whatever a program is, each call ends, and tells the same as the words.
func TestAnything(t *testing.T) {
	m := &maker{Rand: rand.New(rand.NewSource(35))}
	for range 20000 {
		p := api.Program{Harts: m.Intn(6)}
		for range m.Intn(3) {
			p.Devices = append(p.Devices, api.Device{Name: oneOf(m, []string{"", "a", "b"}), Kind: m.Intn(5)})
			p.Resources = append(p.Resources, api.Resource{Name: oneOf(m, []string{"", "a", "c"}), Words: m.Intn(10)})
			p.Tasks = append(p.Tasks, api.Task{Name: oneOf(m, []string{"", "x", "t"}), Handler: m.Intn(2) == 0, Hart: m.Intn(5) - 1, Priority: m.Intn(9), Line: m.Intn(9), Body: []api.Stmt{m.anyStmt(3)}})
		}
		want := firstFault(p)
		if err, at := rule.Check(p); err != want.err || at != want.at {
			t.Fatalf("%v at %v, not %v: %v", err, at, want, p)
		}
		for _, x := range p.Tasks {
			if got := rule.Locals(x); !slices.Equal(got, localsOf(x)) {
				t.Fatalf("%q: %v", got, x)
			}
		}
		devices, resources, _ := namesOf(p)
		for _, name := range []string{"", "a", "b", "c"} {
			if rule.Device(p, name) != slices.Index(devices, name) || rule.Resource(p, name) != slices.Index(resources, name) {
				t.Fatalf("%q: %v", name, p)
			}
		}
	}
}

// R1: what is nested as deep as it may be handed in is not right, and its end is told.
func TestTooDeep(t *testing.T) {
	inner := []api.Stmt{{Kind: api.StmtHalt}}
	e := num(1)
	for range 1<<16 - 1 {
		inner = []api.Stmt{{Kind: api.StmtLock, Name: "r", Then: inner}}
		e = api.Expr{Kind: api.ExprOne, Op: api.OpNeg, Args: []api.Expr{e}}
	}
	for _, body := range [][]api.Stmt{inner, {{Kind: api.StmtSet, Name: "x", Args: []api.Expr{e}}}} {
		p := api.Program{Harts: 1, Resources: []api.Resource{{Name: "r", Words: 1}}, Tasks: []api.Task{{Name: "t", Priority: 1, Body: body}}}
		if err, at := rule.Check(p); err != api.ErrArg || at != [2]int{} {
			t.Error(err, at)
		}
	}
}

// spare is a list with room behind it, in which something stands.
func spare[T any](l []T, more T) []T { return append(slices.Clone(l), more, more)[:len(l)] }

func spareExprs(l []api.Expr) []api.Expr {
	l = spare(l, api.Expr{Name: "more"})
	for i := range l {
		l[i].Args = spareExprs(l[i].Args)
	}
	return l
}

func spareStmts(l []api.Stmt) []api.Stmt {
	l = spare(l, api.Stmt{Name: "more"})
	for i, s := range l {
		l[i].Args, l[i].Then, l[i].Else = spareExprs(s.Args), spareStmts(s.Then), spareStmts(s.Else)
	}
	return l
}

func spareProgram(p api.Program) api.Program {
	p.Devices, p.Resources = spare(p.Devices, api.Device{Name: "more"}), spare(p.Resources, api.Resource{Name: "more"})
	p.Tasks = spare(p.Tasks, api.Task{Name: "more"})
	for i, x := range p.Tasks {
		p.Tasks[i].Body = spareStmts(x.Body)
	}
	return p
}

// opened is a copy of a list, with what stands in the room behind it.
func opened[T any](l []T) []T { return slices.Clone(l[:len(l)+2]) }

func openedExprs(l []api.Expr) []api.Expr {
	all := opened(l)
	for i, e := range l {
		all[i].Args = openedExprs(e.Args)
	}
	return all
}

func openedStmts(l []api.Stmt) []api.Stmt {
	all := opened(l)
	for i, s := range l {
		all[i].Args, all[i].Then, all[i].Else = openedExprs(s.Args), openedStmts(s.Then), openedStmts(s.Else)
	}
	return all
}

func openedProgram(p api.Program) api.Program {
	all := api.Program{Harts: p.Harts, Devices: opened(p.Devices), Resources: opened(p.Resources), Tasks: opened(p.Tasks)}
	for i, x := range p.Tasks {
		all.Tasks[i].Body = openedStmts(x.Body)
	}
	return all
}

// R3: what is handed in is not written into, nor what stands behind its length.
func TestNotWritten(t *testing.T) {
	m := &maker{Rand: rand.New(rand.NewSource(36))}
	for i := range 500 {
		p := spareProgram(m.program())
		if gaps, _ := find(p); i%2 == 0 && len(gaps) > 0 {
			g := oneOf(m, gaps)
			*g.list = spareStmts(slices.Insert(slices.Clone(*g.list), g.place, api.Stmt{Kind: api.StmtLock, Name: "none"}))
		}
		before := openedProgram(p)
		for _, x := range p.Tasks {
			rule.Locals(x)
		}
		rule.Check(p)
		rule.Device(p, "d0")
		rule.Resource(p, "r0")
		if !reflect.DeepEqual(openedProgram(p), before) {
			t.Fatal(short(p))
		}
	}
}

// R3: who owns an answer may write into it and grow it.
func TestOwn(t *testing.T) {
	x := program(t, someText).Tasks[0]
	want := localsOf(x)
	a, b := rule.Locals(x), rule.Locals(x)
	for i := range a {
		a[i] = "other"
	}
	a = append(a, "more", "more")
	clear(a[:cap(a)])
	if got := rule.Locals(x); !slices.Equal(b, want) || !slices.Equal(got, want) {
		t.Errorf("%q, %q, not %q", b, got, want)
	}
}

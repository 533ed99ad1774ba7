package rule_test

import (
	"slices"
	"testing"

	"headstock/api"
	"headstock/reader"
	"headstock/rule"
	"headstock/syntax"
)

// What the chapter's words say, written out here by themselves: all that is wrong with a program, the first ahead.

// fault is what is wrong, and where.
type fault struct {
	err api.Errno
	at  [2]int
}

// placed is a statement with its number, and the resources of the locks that it is in.
type placed struct {
	api.Stmt
	number int
	in     []string
}

func numbered(l []api.Stmt, first int, in []string) []placed {
	var all []placed
	for _, s := range l {
		all = append(all, placed{s, first + len(all), in})
		inner := in
		if s.Kind == api.StmtLock {
			inner = append(slices.Clone(in), s.Name)
		}
		all = append(all, numbered(s.Then, first+len(all), inner)...)
		all = append(all, numbered(s.Else, first+len(all), inner)...)
	}
	return all
}

// leftFirst are expressions, each with those in it behind it.
func leftFirst(l []api.Expr) []api.Expr {
	var all []api.Expr
	for _, e := range l {
		all = append(append(all, e), leftFirst(e.Args)...)
	}
	return all
}

func namesOf(p api.Program) (devices, resources, tasks []string) {
	for _, d := range p.Devices {
		devices = append(devices, d.Name)
	}
	for _, r := range p.Resources {
		resources = append(resources, r.Name)
	}
	for _, x := range p.Tasks {
		tasks = append(tasks, x.Name)
	}
	return devices, resources, tasks
}

// firstFault is what Check is to answer.
func firstFault(p api.Program) fault {
	return append(faults(p), fault{})[0]
}

func faults(p api.Program) []fault {
	if !syntax.Right(p) {
		return []fault{{api.ErrArg, [2]int{}}}
	}
	var all []fault
	seen := map[string]bool{}
	devices, resources, tasks := namesOf(p)
	for _, name := range slices.Concat(devices, resources, tasks) {
		if seen[name] {
			all = append(all, fault{api.ErrTwice, [2]int{}})
		}
		seen[name] = true
	}
	for i := range p.Tasks {
		for _, err := range wrongTask(p, i) {
			all = append(all, fault{err, [2]int{i, 0}})
		}
	}
	for i, x := range p.Tasks {
		for _, s := range numbered(x.Body, 0, nil) {
			for _, err := range wrongStmt(s, seen, devices, resources) {
				all = append(all, fault{err, [2]int{i, s.number}})
			}
		}
	}
	return all
}

func wrongTask(p api.Program, i int) []api.Errno {
	x, l := p.Tasks[i], []api.Errno{}
	if x.Hart >= p.Harts {
		l = append(l, api.ErrHart)
	}
	for _, y := range p.Tasks[:i] {
		if !x.Handler && !y.Handler && x.Hart == y.Hart {
			l = append(l, api.ErrHart)
		}
	}
	for _, y := range p.Tasks[:i] {
		if x.Handler && y.Handler && x.Line == y.Line {
			l = append(l, api.ErrLine)
		}
	}
	for _, y := range p.Tasks {
		if x.Handler && !y.Handler && x.Hart == y.Hart && x.Priority <= y.Priority {
			l = append(l, api.ErrBelow)
		}
	}
	return l
}

func wrongStmt(s placed, taken map[string]bool, devices, resources []string) []api.Errno {
	var l []api.Errno
	add := func(is bool, err api.Errno) {
		if is {
			l = append(l, err)
		}
	}
	is := func(kinds ...int) bool { return slices.Contains(kinds, s.Kind) }
	add(is(api.StmtSet, api.StmtGet) && taken[s.Name], api.ErrTwice)
	add(is(api.StmtGet) && !slices.Contains(devices, s.From), api.ErrUnknown)
	add(is(api.StmtPut) && !slices.Contains(devices, s.Name), api.ErrUnknown)
	add(is(api.StmtLock, api.StmtStore) && !slices.Contains(resources, s.Name), api.ErrUnknown)
	for _, r := range s.in {
		add(is(api.StmtLock) && slices.Index(resources, s.Name) <= slices.Index(resources, r), api.ErrOrder)
	}
	add(is(api.StmtStore) && !slices.Contains(s.in, s.Name), api.ErrFree)
	for _, e := range leftFirst(s.Args) {
		add(e.Kind == api.ExprVar && taken[e.Name], api.ErrTwice)
		add(e.Kind == api.ExprAt && !slices.Contains(resources, e.Name), api.ErrUnknown)
		add(e.Kind == api.ExprAt && !slices.Contains(s.in, e.Name), api.ErrFree)
	}
	return l
}

// localsOf is what Locals is to answer.
func localsOf(x api.Task) []string {
	var l []string
	for _, s := range numbered(x.Body, 0, nil) {
		if s.Kind == api.StmtSet || s.Kind == api.StmtGet {
			l = append(l, s.Name)
		}
		for _, e := range leftFirst(s.Args) {
			if e.Kind == api.ExprVar {
				l = append(l, e.Name)
			}
		}
	}
	var once []string
	for _, name := range l {
		if !slices.Contains(once, name) {
			once = append(once, name)
		}
	}
	return once
}

// program is a text's tree.
func program(t *testing.T, text string) api.Program {
	t.Helper()
	p, err, line := reader.Parse(text)
	if err != api.OK {
		t.Fatalf("%v, line %d: %s", err, line, text)
	}
	return p
}

// short is the beginning of what a program's text is.
func short(p api.Program) string {
	s, _ := syntax.Print(p)
	return s[:min(len(s), 600)]
}

// checks holds what is said of a program, by the chapter's words, and by what the test says.
func checks(t *testing.T, p api.Program, err api.Errno, task, number int) {
	t.Helper()
	want := fault{err, [2]int{task, number}}
	if got, at := rule.Check(p); (fault{got, at}) != want {
		t.Fatalf("%v at %v, not %v:\n%s", got, at, want, short(p))
	}
	if words := firstFault(p); words != want {
		t.Fatalf("by the words %v, not %v:\n%s", words, want, short(p))
	}
}

// checksText holds what is said of a text's program.
func checksText(t *testing.T, text string, err api.Errno, task, number int) {
	t.Helper()
	checks(t, program(t, text), err, task, number)
}

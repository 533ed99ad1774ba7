package reader_test

import (
	"fmt"
	"math/rand"
	"slices"
	"strconv"
	"strings"
	"testing"

	"headstock/api"
	"headstock/reader"
	"headstock/syntax"
)

func num(n int) api.Expr         { return api.Expr{Kind: api.ExprNum, N: n} }
func local(name string) api.Expr { return api.Expr{Kind: api.ExprVar, Name: name} }

func one(op int, e api.Expr) api.Expr {
	return api.Expr{Kind: api.ExprOne, Op: op, Args: []api.Expr{e}}
}

func two(op int, a, b api.Expr) api.Expr {
	return api.Expr{Kind: api.ExprTwo, Op: op, Args: []api.Expr{a, b}}
}

func at(name string, e api.Expr) api.Expr {
	return api.Expr{Kind: api.ExprAt, Name: name, Args: []api.Expr{e}}
}

func set(name string, e api.Expr) api.Stmt {
	return api.Stmt{Kind: api.StmtSet, Name: name, Args: []api.Expr{e}}
}

func get(name, from string, n int) api.Stmt {
	return api.Stmt{Kind: api.StmtGet, Name: name, From: from, N: n}
}

func put(name string, n int, e api.Expr) api.Stmt {
	return api.Stmt{Kind: api.StmtPut, Name: name, N: n, Args: []api.Expr{e}}
}

func store(name string, a, b api.Expr) api.Stmt {
	return api.Stmt{Kind: api.StmtStore, Name: name, Args: []api.Expr{a, b}}
}

func lock(name string, then ...api.Stmt) api.Stmt {
	return api.Stmt{Kind: api.StmtLock, Name: name, Then: then}
}

func cond(e api.Expr, then, other []api.Stmt) api.Stmt {
	return api.Stmt{Kind: api.StmtIf, Args: []api.Expr{e}, Then: then, Else: other}
}

func repeat(n int, then ...api.Stmt) api.Stmt {
	return api.Stmt{Kind: api.StmtRepeat, N: n, Then: then}
}

func halt() api.Stmt { return api.Stmt{Kind: api.StmtHalt} }

// with is a program of one task, of these statements.
func with(l ...api.Stmt) api.Program {
	return api.Program{Harts: 1, Tasks: []api.Task{{Name: "t", Priority: 1, Body: l}}}
}

// in is the text of a program of one task, whose block's text is given.
func in(block string) string { return "harts 1 task t 0 1 { " + block + " }" }

// The operators' signs, those of two level by level.
var (
	unary  = map[int]string{api.OpNeg: "-", api.OpNot: "!", api.OpInv: "~"}
	binary = [9]map[int]string{
		1: {api.OpOr: "|"},
		2: {api.OpXor: "^"},
		3: {api.OpAnd: "&"},
		4: {api.OpEq: "==", api.OpNe: "!="},
		5: {api.OpLt: "<", api.OpLess: "<."},
		6: {api.OpShl: "<<", api.OpShr: ">>"},
		7: {api.OpAdd: "+", api.OpSub: "-"},
		8: {api.OpMul: "*", api.OpDiv: "/", api.OpRem: "%"},
	}
	kinds = map[int]string{api.DeviceUart: "uart", api.DeviceTimer: "timer", api.DeviceGpio: "gpio"}
)

func levelOf(op int) int {
	return max(0, slices.IndexFunc(binary[:], func(m map[int]string) bool { return m[op] != "" }))
}

// short is the beginning of a text, or of what anything is in words.
func short(x any) string { return fmt.Sprintf("%.300q", fmt.Sprint(x)) }

// sameExpr tells whether two are the same, in all that they have.
func sameExpr(a, b api.Expr) bool { return syntax.Same(with(set("x", a)), with(set("x", b))) }

// parses holds that a text is a program's.
func parses(t *testing.T, s string, want api.Program) {
	t.Helper()
	if got, err, line := reader.Parse(s); err != api.OK || line != 0 || !syntax.Same(got, want) {
		t.Errorf("%s: %v, line %d: %s, not %s", short(s), err, line, short(got), short(want))
	}
}

// parsesExpr holds that a text is an expression's, alone and in a program.
func parsesExpr(t *testing.T, s string, want api.Expr) {
	t.Helper()
	if got, err, line := reader.Expr(s); err != api.OK || line != 0 || !sameExpr(got, want) {
		t.Errorf("%s: %v, line %d: %s, not %s", short(s), err, line, short(got), short(want))
	}
	parses(t, in("x = "+s+"\n;"), with(set("x", want)))
}

// refuses holds that a text is no program's, and why.
func refuses(t *testing.T, s string, want api.Errno, atLine int) {
	t.Helper()
	got, err, line := reader.Parse(s)
	if err != want || line != atLine || !syntax.Same(got, api.Program{}) {
		t.Errorf("%v, line %d, not %v, line %d: %s: %s", err, line, want, atLine, short(s), short(got))
	}
}

func refusesExpr(t *testing.T, s string, want api.Errno, atLine int) {
	t.Helper()
	got, err, line := reader.Expr(s)
	if err != want || line != atLine || !sameExpr(got, api.Expr{}) {
		t.Errorf("%v, line %d, not %v, line %d: %s: %s", err, line, want, atLine, short(s), short(got))
	}
}

// writer writes a tree's tokens, one behind the other, in any of the ways that are the same.
type writer struct {
	l    []string
	rest *rand.Rand
}

func (w *writer) add(l ...string) { w.l = append(w.l, l...) }

func (w *writer) number(n int) {
	switch w.rest.Intn(3) {
	case 0:
		w.add("0x" + strconv.FormatInt(int64(n), 16))
	case 1:
		w.add(fmt.Sprintf("0x%08x", n))
	default:
		w.add(strconv.Itoa(n))
	}
}

// within writes between parentheses: where it must, and some more.
func (w *writer) within(must bool, inner func()) {
	if !must && w.rest.Intn(5) > 0 {
		inner()
		return
	}
	w.add("(")
	w.within(false, inner)
	w.add(")")
}

func (w *writer) expr(e api.Expr) {
	w.within(false, func() {
		switch e.Kind {
		case api.ExprNum:
			w.number(e.N)
		case api.ExprVar:
			w.add(e.Name)
		case api.ExprAt:
			w.add(e.Name, "[")
			w.expr(e.Args[0])
			w.add("]")
		case api.ExprOne:
			w.add(unary[e.Op])
			w.within(e.Args[0].Kind == api.ExprTwo, func() { w.expr(e.Args[0]) })
		case api.ExprTwo:
			level, a, b := levelOf(e.Op), e.Args[0], e.Args[1]
			w.within(a.Kind == api.ExprTwo && levelOf(a.Op) < level, func() { w.expr(a) })
			w.add(binary[level][e.Op])
			w.within(b.Kind == api.ExprTwo && levelOf(b.Op) <= level, func() { w.expr(b) })
		}
	})
}

func (w *writer) block(l []api.Stmt) {
	w.add("{")
	for _, s := range l {
		w.stmt(s)
	}
	w.add("}")
}

func (w *writer) stmt(s api.Stmt) {
	switch s.Kind {
	case api.StmtLock:
		w.add("lock", s.Name)
		w.block(s.Then)
		return
	case api.StmtRepeat:
		w.add("repeat")
		w.number(s.N)
		w.block(s.Then)
		return
	case api.StmtIf:
		w.add("if", "(")
		w.expr(s.Args[0])
		w.add(")")
		w.block(s.Then)
		if len(s.Else) > 0 || w.rest.Intn(2) == 0 {
			w.add("else")
			w.block(s.Else)
		}
		return
	case api.StmtHalt:
		w.add("halt")
	case api.StmtSet:
		w.add(s.Name, "=")
		w.expr(s.Args[0])
	case api.StmtGet:
		w.add(s.Name, "=", s.From, ".")
		w.number(s.N)
	case api.StmtPut:
		w.add(s.Name, ".")
		w.number(s.N)
		w.add("=")
		w.expr(s.Args[0])
	case api.StmtStore:
		w.add(s.Name, "[")
		w.expr(s.Args[0])
		w.add("]", "=")
		w.expr(s.Args[1])
	}
	w.add(";")
}

func (w *writer) program(p api.Program) {
	w.add("harts")
	w.number(p.Harts)
	for _, d := range p.Devices {
		w.add("device", d.Name, kinds[d.Kind])
	}
	for _, r := range p.Resources {
		w.add("resource", r.Name)
		w.number(r.Words)
	}
	for _, x := range p.Tasks {
		w.add(map[bool]string{true: "handler", false: "task"}[x.Handler], x.Name)
		w.number(x.Hart)
		w.number(x.Priority)
		if x.Handler {
			w.number(x.Line)
		}
		w.block(x.Body)
	}
}

// text puts something between each two of the tokens, and at both ends.
func (w *writer) text(rest *rand.Rand) string {
	var s strings.Builder
	gap := func() {
		s.WriteString([]string{" ", "\t", "\n", "  ", " # } lock 1 ~ @ \xff\n", "#\n", "\n\n\t"}[rest.Intn(7)])
	}
	gap()
	for _, x := range w.l {
		s.WriteString(x)
		gap()
	}
	return s.String()
}

// anyExpr is a right expression of at most so many parts in one another.
func anyExpr(rest *rand.Rand, deep int) api.Expr {
	name := []string{"x", "y", "r", "a2345678901234567890"}[rest.Intn(4)]
	kind := rest.Intn(6)
	if deep <= 1 {
		kind = rest.Intn(2)
	}
	switch kind {
	case 0:
		return num(int(rest.Uint32()) >> rest.Intn(33))
	case 1:
		return local(name)
	case 2:
		return one(api.OpNeg+rest.Intn(3), anyExpr(rest, deep-1))
	case 3:
		return at(name, anyExpr(rest, deep-1))
	}
	return two(1+rest.Intn(14), anyExpr(rest, deep-1), anyExpr(rest, deep-1))
}

func anyStmt(rest *rand.Rand, deep, exprs int) api.Stmt {
	name := []string{"x", "d", "r", "_"}[rest.Intn(4)]
	kind := rest.Intn(8)
	if deep <= 1 {
		kind = rest.Intn(5)
	}
	switch kind {
	case 0:
		return set(name, anyExpr(rest, exprs))
	case 1:
		return get(name, "d", rest.Intn(4))
	case 2:
		return put(name, rest.Intn(4), anyExpr(rest, exprs))
	case 3:
		return store(name, anyExpr(rest, exprs), anyExpr(rest, exprs))
	case 4:
		return halt()
	case 5:
		return lock(name, anyStmts(rest, deep-1, exprs)...)
	case 6:
		return repeat(rest.Intn(21), anyStmts(rest, deep-1, exprs)...)
	}
	return cond(anyExpr(rest, exprs), anyStmts(rest, deep-1, exprs), anyStmts(rest, deep-1, exprs))
}

func anyStmts(rest *rand.Rand, deep, exprs int) []api.Stmt {
	var l []api.Stmt
	for range rest.Intn(4) {
		l = append(l, anyStmt(rest, deep, exprs))
	}
	return l
}

// anyProgram is a right program.
func anyProgram(rest *rand.Rand) api.Program {
	p := api.Program{Harts: 1 + rest.Intn(4)}
	for range rest.Intn(9) {
		p.Devices = append(p.Devices, api.Device{Name: "d" + strconv.Itoa(rest.Intn(9)), Kind: 1 + rest.Intn(3)})
	}
	for range rest.Intn(9) {
		p.Resources = append(p.Resources, api.Resource{Name: "r" + strconv.Itoa(rest.Intn(9)), Words: 1 + rest.Intn(8)})
	}
	for range rest.Intn(4) {
		x := api.Task{Name: "t" + strconv.Itoa(rest.Intn(9)), Handler: rest.Intn(2) == 0, Hart: rest.Intn(4), Priority: 1 + rest.Intn(7), Body: anyStmts(rest, 4, 4)}
		if x.Handler {
			x.Line = rest.Intn(8)
		}
		p.Tasks = append(p.Tasks, x)
	}
	return p
}

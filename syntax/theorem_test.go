package syntax_test

import (
	"fmt"
	"maps"
	"math/rand"
	"slices"
	"strings"
	"testing"

	"headstock/api"
	"headstock/syntax"
	"headstock/token"
)

// reader tells what a printed text is of: it takes texts as they are printed, and looks no further.
type reader struct{ l []api.Token }

func (r *reader) next() api.Token {
	x := r.l[0]
	r.l = r.l[1:]
	return x
}

// is passes over a token of that text, if it stands there.
func (r *reader) is(text string) bool {
	if r.l[0].Text != text {
		return false
	}
	r.next()
	return true
}

func (r *reader) must(text string) {
	if !r.is(text) {
		panic(fmt.Sprintf("%v, not %q", r.l[0], text))
	}
}

func (r *reader) name() string { return r.next().Text }
func (r *reader) number() int  { return r.next().N }

func (r *reader) program() api.Program {
	r.must("harts")
	p := api.Program{Harts: r.number()}
	for r.is("device") {
		d := api.Device{Name: r.name()}
		kind := r.name()
		for n, text := range kinds {
			if text == kind {
				d.Kind = n
			}
		}
		p.Devices = append(p.Devices, d)
	}
	for r.is("resource") {
		p.Resources = append(p.Resources, api.Resource{Name: r.name(), Words: r.number()})
	}
	for r.l[0].Kind != api.TokEnd {
		p.Tasks = append(p.Tasks, r.task())
	}
	return p
}

func (r *reader) task() api.Task {
	x := api.Task{Handler: r.is("handler")}
	if !x.Handler {
		r.must("task")
	}
	x.Name, x.Hart, x.Priority = r.name(), r.number(), r.number()
	if x.Handler {
		x.Line = r.number()
	}
	x.Body = r.block()
	return x
}

func (r *reader) block() []api.Stmt {
	var l []api.Stmt
	r.must("{")
	for !r.is("}") {
		l = append(l, r.stmt())
	}
	return l
}

func (r *reader) stmt() api.Stmt {
	switch {
	case r.is("lock"):
		return lock(r.name(), r.block()...)
	case r.is("repeat"):
		return repeat(r.number(), r.block()...)
	case r.is("if"):
		r.must("(")
		s := cond(r.expr(1), nil, nil)
		r.must(")")
		s.Then = r.block()
		if r.is("else") {
			s.Else = r.block()
		}
		return s
	}
	s := r.simple()
	r.must(";")
	return s
}

func (r *reader) simple() api.Stmt {
	if r.is("halt") {
		return halt()
	}
	name := r.name()
	switch {
	case r.is("."):
		n := r.number()
		r.must("=")
		return put(name, n, r.expr(1))
	case r.is("["):
		place := r.expr(1)
		r.must("]")
		r.must("=")
		return store(name, place, r.expr(1))
	}
	r.must("=")
	if r.l[1].Text == "." {
		from := r.name()
		r.must(".")
		return get(name, from, r.number())
	}
	return set(name, r.expr(1))
}

// expr is an expression of operators from that level on.
func (r *reader) expr(level int) api.Expr {
	if level == len(binary) {
		return r.part()
	}
	e := r.expr(level + 1)
again:
	for {
		for op, sign := range binary[level] {
			if r.l[0].Kind == api.TokSign && r.is(sign) {
				e = two(op, e, r.expr(level+1))
				continue again
			}
		}
		return e
	}
}

func (r *reader) part() api.Expr {
	x := r.next()
	switch x.Kind {
	case api.TokNumber:
		return num(x.N)
	case api.TokName:
		if r.is("[") {
			e := r.expr(1)
			r.must("]")
			return at(x.Text, e)
		}
		return local(x.Text)
	}
	for op, sign := range unary {
		if x.Text == sign {
			return one(op, r.part())
		}
	}
	if x.Text != "(" {
		panic(fmt.Sprint("no part: ", x))
	}
	e := r.expr(1)
	r.must(")")
	return e
}

// anyExpr is a right expression of at most so many parts in one another, with few names and numbers, so that some are alike.
func anyExpr(rest *rand.Rand, deep int) api.Expr {
	name := []string{"x", "y", "r"}[rest.Intn(3)]
	kind := rest.Intn(6)
	if deep <= 1 {
		kind = rest.Intn(2)
	}
	switch kind {
	case 0:
		return num(int(rest.Uint32()) >> rest.Intn(33))
	case 1:
		return local(name)
	case 2:
		return one(api.OpNeg+rest.Intn(3), anyExpr(rest, deep-1))
	case 3:
		return at(name, anyExpr(rest, deep-1))
	}
	return two(1+rest.Intn(14), anyExpr(rest, deep-1), anyExpr(rest, deep-1))
}

func anyStmt(rest *rand.Rand, deep, exprs int) api.Stmt {
	name := []string{"x", "d", "r"}[rest.Intn(3)]
	kind := rest.Intn(8)
	if deep <= 1 {
		kind = rest.Intn(5)
	}
	switch kind {
	case 0:
		return set(name, anyExpr(rest, exprs))
	case 1:
		return get(name, "d", rest.Intn(4))
	case 2:
		return put(name, rest.Intn(4), anyExpr(rest, exprs))
	case 3:
		return store(name, anyExpr(rest, exprs), anyExpr(rest, exprs))
	case 4:
		return halt()
	case 5:
		return lock(name, anyStmts(rest, deep-1, exprs)...)
	case 6:
		return repeat(rest.Intn(21), anyStmts(rest, deep-1, exprs)...)
	}
	return cond(anyExpr(rest, exprs), anyStmts(rest, deep-1, exprs), anyStmts(rest, deep-1, exprs))
}

func anyStmts(rest *rand.Rand, deep, exprs int) []api.Stmt {
	var l []api.Stmt
	for range rest.Intn(4) {
		l = append(l, anyStmt(rest, deep, exprs))
	}
	return l
}

// anyProgram is a right program.
func anyProgram(rest *rand.Rand) api.Program {
	p := api.Program{Harts: 1 + rest.Intn(4)}
	for range rest.Intn(9) {
		p.Devices = append(p.Devices, api.Device{Name: "d", Kind: 1 + rest.Intn(3)})
	}
	for range rest.Intn(9) {
		p.Resources = append(p.Resources, api.Resource{Name: "r", Words: 1 + rest.Intn(8)})
	}
	for range rest.Intn(4) {
		x := api.Task{Name: "t", Handler: rest.Intn(2) == 0, Hart: rest.Intn(4), Priority: 1 + rest.Intn(7), Body: anyStmts(rest, 4, 4)}
		if x.Handler {
			x.Line = rest.Intn(8)
		}
		p.Tasks = append(p.Tasks, x)
	}
	return p
}

// scans holds what a printed text is for chapter 5: it is scanned, if it is not too long, and its braces go by twos.
func scans(t *testing.T, text string) []api.Token {
	t.Helper()
	l, err, line := token.Scan(text)
	if len(text) <= 20000 && (err != api.OK || line != 0) || len(text) > 20000 && err != api.ErrLong {
		t.Fatalf("%v line %d: %.500q", err, line, text)
	}
	if strings.Count(text, "{") != strings.Count(text, "}") {
		t.Fatalf("braces: %.500q", text)
	}
	return l
}

// Y2 to Y4: what is printed is the chapter's text, is scanned, and tells what it was printed of.
func TestThereAndBack(t *testing.T) {
	rest := rand.New(rand.NewSource(10))
	for range 3000 {
		p := anyProgram(rest)
		prints(t, p, wholeOf(p))
		text, _ := syntax.Print(p)
		l := scans(t, text)
		if l == nil {
			continue
		}
		r := reader{l}
		if got := r.program(); !syntax.Same(got, p) || len(r.l) != 1 {
			t.Fatalf("%s: %s", text, wholeOf(got))
		}
	}
	for range 30000 {
		e := anyExpr(rest, 5)
		text, err := syntax.Expr(e)
		if err != api.OK || text != textOf(e) {
			t.Fatalf("%v %q, not %q", err, text, textOf(e))
		}
		r := reader{scans(t, text)}
		if got := r.expr(1); textOf(got) != text || !syntax.Same(with(set("x", got)), with(set("x", e))) || len(r.l) != 1 {
			t.Fatalf("%v: %v", e, got)
		}
	}
}

// Y4: what is as deep, and as great, as may be is scanned, too; and it tells what it was printed of.
func TestDeepThereAndBack(t *testing.T) {
	for _, s := range nestedStmts(30, halt()) {
		for _, e := range nestedExprs(30) {
			p := with(s, set("x", e))
			text, err := syntax.Print(p)
			if err != api.OK {
				t.Fatal(err)
			}
			r := reader{scans(t, text)}
			if !syntax.Same(r.program(), p) {
				t.Fatal(text)
			}
		}
	}
	long := with(slices.Repeat([]api.Stmt{lock("r", halt())}, 2000)...)
	prints(t, long, wholeOf(long))
	if l := scans(t, wholeOf(long)); l != nil {
		t.Error(len(l))
	}
}

// Y1 and Y4: of two right programs the texts are the same just if they are.
func TestUnlikeTexts(t *testing.T) {
	rest := rand.New(rand.NewSource(11))
	byText := map[string]api.Program{}
	alike := 0
	for range 30000 {
		p := with(anyStmts(rest, 2, 2)...)
		text, err := syntax.Print(p)
		if err != api.OK {
			t.Fatal(err)
		}
		q, ok := byText[text]
		if ok {
			alike++
		}
		if ok && !syntax.Same(p, q) {
			t.Fatalf("%q", text)
		}
		byText[text] = p
	}
	if alike == 0 {
		t.Error("none alike")
	}
	var all []api.Program
	for _, text := range slices.Sorted(maps.Keys(byText))[:300] {
		all = append(all, byText[text])
	}
	for i, p := range all {
		for k, q := range all {
			if syntax.Same(p, q) != (i == k) {
				t.Fatal(i, k)
			}
		}
	}
}

// Y4: all expressions of at most three operators, of some, have as many texts as there are of them.
func TestUnlikeExprs(t *testing.T) {
	of := [][]api.Expr{{local("x"), num(1)}}
	for n := 1; n <= 3; n++ {
		var l []api.Expr
		for _, e := range of[n-1] {
			l = append(l, one(api.OpNeg, e), one(api.OpNot, e), at("x", e))
		}
		for left := range n {
			for _, a := range of[left] {
				for _, b := range of[n-1-left] {
					for _, op := range []int{api.OpSub, api.OpAdd, api.OpMul, api.OpLt} {
						l = append(l, two(op, a, b))
					}
				}
			}
		}
		of = append(of, l)
	}
	texts := map[string]int{}
	for i, e := range slices.Concat(of...) {
		text, err := syntax.Expr(e)
		if err != api.OK {
			t.Fatal(err)
		}
		if k, ok := texts[text]; ok {
			t.Fatalf("%q: %d and %d", text, k, i)
		}
		texts[text] = i
	}
}

// all are a program's expressions and statements, each where it stands.
func all(p *api.Program) ([]*api.Stmt, []*api.Expr) {
	var stmts []*api.Stmt
	var exprs []*api.Expr
	var inExprs func(l []api.Expr)
	inExprs = func(l []api.Expr) {
		for i := range l {
			exprs = append(exprs, &l[i])
			inExprs(l[i].Args)
		}
	}
	var inStmts func(l []api.Stmt)
	inStmts = func(l []api.Stmt) {
		for i := range l {
			stmts = append(stmts, &l[i])
			inExprs(l[i].Args)
			inStmts(l[i].Then)
			inStmts(l[i].Else)
		}
	}
	for i := range p.Tasks {
		inStmts(p.Tasks[i].Body)
	}
	return stmts, exprs
}

// changed holds that a program that was changed is another one, and right or wrong as it says.
func changed(t *testing.T, p api.Program) {
	t.Helper()
	q := some()
	if syntax.Same(p, q) || syntax.Same(q, p) || !syntax.Same(p, p) {
		t.Errorf("the same: %s", short(p))
	}
	stmts, exprs := all(&p)
	if syntax.Size(p) != len(stmts)+len(exprs) {
		t.Error(syntax.Size(p), len(stmts), len(exprs))
	}
	if text, _ := syntax.Print(p); text == someText {
		t.Errorf("the same text: %s", short(p))
	}
	holds(t, p)
}

// Y1 to Y4: each expression and each statement of a program, whatever of it is changed, changes it; and what is wrong anywhere makes all of it wrong.
func TestEachPlace(t *testing.T) {
	p := some()
	stmts, exprs := all(&p)
	if len(stmts)+len(exprs) != someSize {
		t.Fatal(len(stmts), len(exprs))
	}
	for i := range exprs {
		for k, change := range []func(*api.Expr){
			func(e *api.Expr) { e.Kind += 7 },
			func(e *api.Expr) { e.Op += 20 },
			func(e *api.Expr) { e.N = -1 },
			func(e *api.Expr) { e.Name += "!" },
			func(e *api.Expr) { e.Args = append(e.Args, num(1)) },
			func(e *api.Expr) { *e = api.Expr{} },
			func(e *api.Expr) { *e = one(api.OpInv, *e) },
			func(e *api.Expr) { *e = num(77) },
		} {
			p := some()
			_, exprs := all(&p)
			change(exprs[i])
			changed(t, p)
			if syntax.Right(p) != (k >= 6) {
				t.Error(i, k)
			}
		}
	}
	for i := range stmts {
		for k, change := range []func(*api.Stmt){
			func(s *api.Stmt) { s.Kind += 9 },
			func(s *api.Stmt) { s.N = 21 },
			func(s *api.Stmt) { s.Name += "!" },
			func(s *api.Stmt) { s.From += "!" },
			func(s *api.Stmt) { s.Args = append(s.Args, num(1)) },
			func(s *api.Stmt) { s.Then, s.Else = append(s.Then, api.Stmt{}), append(s.Else, halt()) },
			func(s *api.Stmt) { *s = api.Stmt{} },
			func(s *api.Stmt) { *s = lock("r", *s) },
			func(s *api.Stmt) { *s = put("d", 3, num(4)) },
		} {
			p := some()
			stmts, _ := all(&p)
			change(stmts[i])
			changed(t, p)
			if syntax.Right(p) != (k >= 7) {
				t.Error(i, k)
			}
		}
	}
}

// Y1, Y3 and Y4: whatever else is changed of a program changes it.
func TestEachOther(t *testing.T) {
	for _, change := range []func(*api.Program){
		func(p *api.Program) { p.Harts = 4 },
		func(p *api.Program) { p.Devices = p.Devices[1:] },
		func(p *api.Program) { slices.Reverse(p.Devices) },
		func(p *api.Program) { p.Devices[2].Name = "pins" },
		func(p *api.Program) { p.Devices[0].Kind = api.DeviceGpio },
		func(p *api.Program) { p.Resources = p.Resources[:1] },
		func(p *api.Program) { slices.Reverse(p.Resources) },
		func(p *api.Program) { p.Resources[0].Name = "s" },
		func(p *api.Program) { p.Resources[1].Words = 2 },
		func(p *api.Program) { p.Resources = append(p.Resources, p.Resources[0]) },
		func(p *api.Program) { p.Tasks = p.Tasks[:3] },
		func(p *api.Program) { slices.Reverse(p.Tasks) },
		func(p *api.Program) { p.Tasks[0].Name = "Main" },
		func(p *api.Program) { p.Tasks[1].Handler = true },
		func(p *api.Program) { p.Tasks[3].Handler = false },
		func(p *api.Program) { p.Tasks[0].Hart = 3 },
		func(p *api.Program) { p.Tasks[1].Priority = 6 },
		func(p *api.Program) { p.Tasks[2].Line = 6 },
		func(p *api.Program) { p.Tasks[0].Body = p.Tasks[0].Body[1:] },
		func(p *api.Program) { slices.Reverse(p.Tasks[0].Body) },
		func(p *api.Program) { p.Tasks[0].Body, p.Tasks[1].Body = p.Tasks[1].Body, p.Tasks[0].Body },
		func(p *api.Program) { s := &p.Tasks[0].Body[4]; s.Then, s.Else = s.Else, s.Then },
	} {
		p := some()
		change(&p)
		changed(t, p)
		if !syntax.Right(p) {
			t.Errorf("wrong: %s", short(p))
		}
	}
	for _, change := range []func(*api.Program){
		func(p *api.Program) { p.Harts = 0 },
		func(p *api.Program) { p.Tasks[0].Line = 1 },
		func(p *api.Program) { p.Tasks[2].Handler = false },
		func(p *api.Program) { p.Tasks[3].Line = -1 },
		func(p *api.Program) { p.Tasks[3].Priority = 0 },
		func(p *api.Program) { p.Tasks[3].Hart = 4 },
		func(p *api.Program) { p.Devices[2].Kind = 0 },
		func(p *api.Program) { p.Resources[1].Words = 9 },
	} {
		p := some()
		change(&p)
		changed(t, p)
		refuses(t, p)
	}
}

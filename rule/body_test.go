package rule_test

import (
	"slices"
	"strings"
	"testing"

	"headstock/api"
	"headstock/rule"
)

// bodyCase is the statements of a task t: what is wrong, and the number of the statement that it is wrong with.
type bodyCase struct {
	body   string
	err    api.Errno
	number int
}

// holdsBodies holds what is said of statements: where they are all that there is, with more tasks ahead, and with a wrong one behind.
func holdsBodies(t *testing.T, l []bodyCase) {
	t.Helper()
	const (
		head   = "harts 3 device d uart device e timer resource a 2 resource b 8 resource c 1 "
		ahead  = "handler h 0 2 0 { x = d.0; lock c { c[0] = x; } halt; } task s 1 1 { lock a { lock b { } } } "
		behind = " task w 2 1 { x = 1; lock none { } }"
	)
	for _, x := range l {
		body := "task t 0 1 { " + x.body + " }"
		checksText(t, head+body, x.err, 0, x.number)
		if x.err == api.OK {
			checksText(t, head+ahead+body, api.OK, 0, 0)
			checksText(t, head+ahead+body+behind, api.ErrUnknown, 3, 1)
		} else {
			checksText(t, head+ahead+body, x.err, 2, x.number)
			checksText(t, head+ahead+body+behind, x.err, 2, x.number)
		}
	}
}

// U2: the names that statements set.
func TestSet(t *testing.T) {
	holdsBodies(t, []bodyCase{
		{"", api.OK, 0}, {"x = 1;", api.OK, 0}, {"x = x; x = d.3; D = 1; a_ = 1;", api.OK, 0},
		{"d = 1;", api.ErrTwice, 0}, {"e = 1;", api.ErrTwice, 0}, {"a = 1;", api.ErrTwice, 0}, {"c = 1;", api.ErrTwice, 0}, {"t = 1;", api.ErrTwice, 0},
		{"d = d.0;", api.ErrTwice, 0}, {"a = d.0;", api.ErrTwice, 0}, {"t = e.1;", api.ErrTwice, 0},
		{"x = 1; y = 2; c = 3; a = 4;", api.ErrTwice, 2},
		{"lock a { a = 1; }", api.ErrTwice, 1},
		{"b = none[0];", api.ErrTwice, 0}, {"b = a[0];", api.ErrTwice, 0}, {"b = none.0;", api.ErrTwice, 0},
	})
	checksText(t, "harts 2 task t 0 1 { u = 1; } task u 1 1 { }", api.ErrTwice, 0, 0)
	checksText(t, "harts 2 task t 0 1 { } handler h 0 2 0 { u = 1; } task u 1 1 { }", api.ErrTwice, 1, 0)
	checksText(t, "harts 2 task t 0 1 { } handler h 0 2 0 { h = t; } task u 1 1 { x = h; }", api.ErrTwice, 1, 0)
}

// U2: devices that statements read and write.
func TestDevices(t *testing.T) {
	holdsBodies(t, []bodyCase{
		{"x = d.0; x = e.3; d.0 = 1; e.3 = x;", api.OK, 0},
		{"x = none.0;", api.ErrUnknown, 0}, {"x = a.0;", api.ErrUnknown, 0}, {"x = t.0;", api.ErrUnknown, 0}, {"x = x.0;", api.ErrUnknown, 0},
		{"none.0 = 1;", api.ErrUnknown, 0}, {"a.0 = 1;", api.ErrUnknown, 0}, {"t.0 = 1;", api.ErrUnknown, 0}, {"x = 1; x.0 = 1;", api.ErrUnknown, 1},
		{"lock a { x = a.0; }", api.ErrUnknown, 1}, {"lock a { a.0 = 1; }", api.ErrUnknown, 1},
		{"none.0 = d;", api.ErrUnknown, 0}, {"d.0 = d;", api.ErrTwice, 0}, {"d.0 = a[0];", api.ErrFree, 0}, {"e.0 = none[0];", api.ErrUnknown, 0},
	})
}

// U2: resources that are locked.
func TestLock(t *testing.T) {
	holdsBodies(t, []bodyCase{
		{"lock a { lock b { lock c { } } }", api.OK, 0}, {"lock a { lock c { } lock b { } }", api.OK, 0}, {"lock c { } lock b { } lock a { } lock a { }", api.OK, 0},
		{"lock none { }", api.ErrUnknown, 0}, {"lock d { }", api.ErrUnknown, 0}, {"lock t { }", api.ErrUnknown, 0}, {"x = 1; lock x { }", api.ErrUnknown, 1},
		{"lock none { d = 1; }", api.ErrUnknown, 0}, {"lock c { lock none { } }", api.ErrUnknown, 1},
		{"lock a { lock a { } }", api.ErrOrder, 1}, {"lock b { lock a { } }", api.ErrOrder, 1}, {"lock c { lock c { } }", api.ErrOrder, 1},
		{"lock a { lock c { lock b { } } }", api.ErrOrder, 2}, {"lock b { lock c { lock a { } } }", api.ErrOrder, 2}, {"lock a { lock b { lock a { } } }", api.ErrOrder, 2},
		{"lock a { lock b { } lock b { lock c { } } lock a { } }", api.ErrOrder, 4},
		{"lock b { x = 1; repeat 2 { if (x) { } else { lock a { } } } }", api.ErrOrder, 4},
		{"lock b { if (1) { lock c { } lock a { } } else { } }", api.ErrOrder, 3},
		{"lock a { lock b { } } lock b { lock a { } }", api.ErrOrder, 3},
		{"lock b { lock a { d = 1; } }", api.ErrOrder, 1}, {"lock b { d = 1; lock a { } }", api.ErrTwice, 1},
	})
}

// U2: words that are stored where what they are of does not hold.
func TestStore(t *testing.T) {
	holdsBodies(t, []bodyCase{
		{"lock a { a[0] = 1; a[9] = a[a[1]]; lock b { a[b[0]] = 1; b[a[0]] = b[1]; } a[0] = x; }", api.OK, 0},
		{"lock a { if (a[0]) { a[1] = 1; } else { repeat 2 { a[0] = a[1]; } } }", api.OK, 0},
		{"none[0] = 1;", api.ErrUnknown, 0}, {"d[0] = 1;", api.ErrUnknown, 0}, {"t[0] = 1;", api.ErrUnknown, 0}, {"x = 1; x[0] = 1;", api.ErrUnknown, 1},
		{"a[0] = 1;", api.ErrFree, 0}, {"lock a { } a[0] = 1;", api.ErrFree, 1}, {"a[0] = 1; lock a { }", api.ErrFree, 0},
		{"lock b { a[0] = 1; }", api.ErrFree, 1}, {"lock a { b[0] = 1; lock b { } }", api.ErrFree, 1},
		{"lock a { lock b { } b[0] = 1; }", api.ErrFree, 2}, {"lock a { lock b { } lock c { a[0] = 1; c[0] = 1; b[0] = 1; } }", api.ErrFree, 5},
		{"lock a { if (1) { lock b { } } else { b[0] = 1; } }", api.ErrFree, 3},
		{"none[d] = none[0];", api.ErrUnknown, 0}, {"a[none[0]] = d;", api.ErrFree, 0},
		{"lock a { a[d] = b[0]; }", api.ErrTwice, 1}, {"lock a { a[b[0]] = d; }", api.ErrFree, 1}, {"lock a { a[0] = d; }", api.ErrTwice, 1},
		{"lock a { a[none[0]] = b[0]; }", api.ErrUnknown, 1}, {"lock a { a[0] = none[b[0]]; }", api.ErrUnknown, 1},
	})
}

// U2: expressions, wherever they stand: those to the left first, and each ahead of what is in it.
func TestExpressions(t *testing.T) {
	for _, x := range []struct {
		expr string
		err  api.Errno
	}{
		{"x", api.OK}, {"x + y * -z", api.OK}, {"b[0]", api.OK}, {"b[x] + b[b[1] & 3]", api.OK},
		{"d", api.ErrTwice}, {"e", api.ErrTwice}, {"a", api.ErrTwice}, {"b", api.ErrTwice}, {"t", api.ErrTwice}, {"-!~d", api.ErrTwice}, {"b[d]", api.ErrTwice},
		{"none[0]", api.ErrUnknown}, {"d[0]", api.ErrUnknown}, {"t[0]", api.ErrUnknown}, {"x[0]", api.ErrUnknown}, {"b[none[0]]", api.ErrUnknown},
		{"a[0]", api.ErrFree}, {"c[0]", api.ErrFree}, {"b[1 + a[0]]", api.ErrFree}, {"-a[0]", api.ErrFree},
		{"none[d]", api.ErrUnknown}, {"none[a[0]]", api.ErrUnknown}, {"a[d]", api.ErrFree}, {"a[none[0]]", api.ErrFree},
		{"d + a[0]", api.ErrTwice}, {"a[0] + d", api.ErrFree}, {"none[0] + d", api.ErrUnknown}, {"d + none[0]", api.ErrTwice}, {"a[0] + none[0]", api.ErrFree}, {"none[0] + a[0]", api.ErrUnknown},
		{"1 + (2 + a[0]) * d", api.ErrFree}, {"d * (2 + a[0])", api.ErrTwice}, {"b[d] + none[0]", api.ErrTwice}, {"b[b[none[0]]] + d", api.ErrUnknown}, {"x + y + z + a[d]", api.ErrFree},
	} {
		number, err := 1, x.err
		if err == api.OK {
			number = 0
		}
		for _, body := range []string{"x = E;", "d.0 = E;", "b[E] = 1;", "b[0] = E;", "if (E) { }"} {
			body = strings.ReplaceAll(body, "E", x.expr)
			holdsBodies(t, []bodyCase{{"lock b { " + body + " }", err, number}})
		}
		// What a statement has itself is ahead of what is in it.
		if err == api.OK {
			number, err = 2, api.ErrUnknown
		}
		holdsBodies(t, []bodyCase{{"lock b { if (" + x.expr + ") { lock none { } } }", err, number}})
	}
}

// U2: a statement's number counts all that begin ahead of it.
func TestNumbers(t *testing.T) {
	holdsBodies(t, []bodyCase{
		{"if (1) { x = 1; x = 2; } else { y = 1; } d = 1;", api.ErrTwice, 4},
		{"if (1) { x = 1; x = 2; } else { d = 1; } y = 1;", api.ErrTwice, 3},
		{"if (1) { d = 1; } else { a[0] = 1; }", api.ErrTwice, 1}, {"if (1) { } else { a[0] = 1; }", api.ErrFree, 1},
		{"if (1) { if (2) { halt; } else { halt; } } else { if (3) { halt; } else { halt; d = 1; } }", api.ErrTwice, 7},
		{"lock a { } repeat 0 { } halt; if (0) { } lock none { }", api.ErrUnknown, 4},
		{"repeat 0 { d = 1; }", api.ErrTwice, 1}, {"halt; d = 1;", api.ErrTwice, 1}, {"if (0) { d = 1; }", api.ErrTwice, 1},
		{"lock a { repeat 3 { lock b { x = 1; b[0] = 1; } } } b[0] = 1;", api.ErrFree, 5},
		{"lock a { lock b { } } if (b[0]) { }", api.ErrFree, 2},
		// All that a statement has itself is ahead of what is in it.
		{"if (a[0]) { d = 1; }", api.ErrFree, 0}, {"lock none { lock none { } }", api.ErrUnknown, 0}, {"lock b { lock a { d = 1; } }", api.ErrOrder, 1},
	})
}

// nested is a statement in 28 others.
func nested(s api.Stmt, kind int) api.Stmt {
	for range 28 {
		s = api.Stmt{Kind: kind, Then: []api.Stmt{s}}
		if kind == api.StmtIf {
			s.Args = []api.Expr{{Kind: api.ExprNum}}
		}
	}
	return s
}

// U2: what is wrong is found as deep, and as far behind, as it may be.
func TestFar(t *testing.T) {
	p := program(t, "harts 1 resource r 1 task t 0 1 { }")
	bad := api.Stmt{Kind: api.StmtSet, Name: "r", Args: []api.Expr{{Kind: api.ExprNum}}}
	free := api.Stmt{Kind: api.StmtStore, Name: "r", Args: []api.Expr{{Kind: api.ExprNum}, {Kind: api.ExprNum}}}
	lock := func(s api.Stmt) api.Stmt { return api.Stmt{Kind: api.StmtLock, Name: "r", Then: []api.Stmt{s}} }
	for _, kind := range []int{api.StmtRepeat, api.StmtIf} {
		p.Tasks[0].Body = []api.Stmt{nested(bad, kind)}
		checks(t, p, api.ErrTwice, 0, 28)
		p.Tasks[0].Body = []api.Stmt{lock(nested(free, kind))}
		checks(t, p, api.OK, 0, 0)
		p.Tasks[0].Body = []api.Stmt{lock(nested(free, kind)), nested(free, kind)}
		checks(t, p, api.ErrFree, 0, 58)
		p.Tasks[0].Body = []api.Stmt{lock(nested(bad, kind)), nested(free, kind)}
		checks(t, p, api.ErrTwice, 0, 29)
	}
	many := slices.Repeat([]api.Stmt{lock(free), {Kind: api.StmtHalt}}, 100000)
	p.Tasks[0].Body = many
	if err, at := rule.Check(p); err != api.OK || at != [2]int{} {
		t.Error(err, at)
	}
	p.Tasks[0].Body = append(many, free, bad)
	if err, at := rule.Check(p); err != api.ErrFree || at != [2]int{0, 300000} {
		t.Error(err, at)
	}
	e := api.Expr{Kind: api.ExprAt, Name: "r", Args: []api.Expr{{Kind: api.ExprVar, Name: "r"}}}
	for range 28 {
		e = api.Expr{Kind: api.ExprOne, Op: api.OpNeg, Args: []api.Expr{e}}
	}
	set := api.Stmt{Kind: api.StmtSet, Name: "x", Args: []api.Expr{e}}
	p.Tasks[0].Body = []api.Stmt{set}
	checks(t, p, api.ErrFree, 0, 0)
	p.Tasks[0].Body = []api.Stmt{lock(set)}
	checks(t, p, api.ErrTwice, 0, 1)
}

package syntax

import (
	"math"
	"strconv"
	"strings"

	"headstock/api"
	"headstock/wrap"
)

// printer builds the text of what is right.
type printer struct {
	strings.Builder
	tabs int
}

// line writes a line of pieces, behind as many tabs as it is deep.
func (t *printer) line(pieces ...string) {
	for range t.tabs {
		t.WriteByte('\t')
	}
	for _, s := range pieces {
		t.WriteString(s)
	}
	t.WriteByte('\n')
}

func (t *printer) program(p api.Program) {
	t.line("harts ", strconv.Itoa(p.Harts))
	for _, d := range p.Devices {
		t.line("device ", d.Name, " ", kindText(d.Kind))
	}
	for _, r := range p.Resources {
		t.line("resource ", r.Name, " ", strconv.Itoa(r.Words))
	}
	for _, x := range p.Tasks {
		t.task(x)
	}
}

func (t *printer) task(x api.Task) {
	hart, priority := strconv.Itoa(x.Hart), strconv.Itoa(x.Priority)
	if x.Handler {
		t.line("handler ", x.Name, " ", hart, " ", priority, " ", strconv.Itoa(x.Line), " {")
	} else {
		t.line("task ", x.Name, " ", hart, " ", priority, " {")
	}
	t.inner(x.Body)
	t.line("}")
}

// inner writes what stands between a line with an open brace and the one that closes it.
func (t *printer) inner(l []api.Stmt) {
	t.tabs++
	for _, s := range l {
		t.stmt(s)
	}
	t.tabs--
}

func (t *printer) stmt(s api.Stmt) {
	switch s.Kind {
	case api.StmtSet:
		t.line(s.Name, " = ", exprText(s.Args[0]), ";")
	case api.StmtGet:
		t.line(s.Name, " = ", s.From, ".", strconv.Itoa(s.N), ";")
	case api.StmtPut:
		t.line(s.Name, ".", strconv.Itoa(s.N), " = ", exprText(s.Args[0]), ";")
	case api.StmtStore:
		t.line(s.Name, "[", exprText(s.Args[0]), "] = ", exprText(s.Args[1]), ";")
	case api.StmtLock:
		t.line("lock ", s.Name, " {")
		t.inner(s.Then)
		t.line("}")
	case api.StmtIf:
		t.line("if (", exprText(s.Args[0]), ") {")
		t.inner(s.Then)
		if len(s.Else) > 0 {
			t.line("} else {")
			t.inner(s.Else)
		}
		t.line("}")
	case api.StmtRepeat:
		t.line("repeat ", strconv.Itoa(s.N), " {")
		t.inner(s.Then)
		t.line("}")
	case api.StmtHalt:
		t.line("halt;")
	}
}

// exprText is a right expression's text.
func exprText(e api.Expr) string {
	var t printer
	t.expr(e)
	return t.String()
}

func (t *printer) expr(e api.Expr) {
	sign, _ := wrap.Sign(e.Op)
	switch e.Kind {
	case api.ExprNum:
		t.WriteString(strconv.Itoa(e.N))
	case api.ExprVar:
		t.WriteString(e.Name)
	case api.ExprAt:
		t.WriteString(e.Name + "[")
		t.expr(e.Args[0])
		t.WriteByte(']')
	case api.ExprOne:
		t.WriteString(sign)
		// An operator of one binds more strongly than any of two.
		t.arg(e.Args[0], math.MaxInt)
	case api.ExprTwo:
		level := wrap.Level(e.Op)
		t.arg(e.Args[0], level)
		t.WriteString(" " + sign + " ")
		// Of one level those to the left come first: to the right not even the same one stands by itself.
		t.arg(e.Args[1], level+1)
	}
}

// arg writes a part of an expression: in parentheses, if it is one of two parts whose level is not even the least one that may do without.
func (t *printer) arg(e api.Expr, least int) {
	if e.Kind != api.ExprTwo || wrap.Level(e.Op) >= least {
		t.expr(e)
		return
	}
	t.WriteByte('(')
	t.expr(e)
	t.WriteByte(')')
}

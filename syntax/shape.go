package syntax

import (
	"math"

	"headstock/api"
	"headstock/token"
	"headstock/wrap"
)

// shape is what an expression or a statement of one kind has: all else of it is 0, or empty.
type shape struct {
	known        bool // there is such a kind
	name, from   bool
	most         int // its N may be, from 0 on
	op           int // of how many numbers its operator is; 0: it has none
	args         int
	then, orElse bool
}

func exprShape(kind int) shape {
	switch kind {
	case api.ExprNum:
		return shape{known: true, most: math.MaxUint32}
	case api.ExprVar:
		return shape{known: true, name: true}
	case api.ExprOne:
		return shape{known: true, op: 1, args: 1}
	case api.ExprTwo:
		return shape{known: true, op: 2, args: 2}
	case api.ExprAt:
		return shape{known: true, name: true, args: 1}
	}
	return shape{}
}

func stmtShape(kind int) shape {
	switch kind {
	case api.StmtSet:
		return shape{known: true, name: true, args: 1}
	case api.StmtGet:
		return shape{known: true, name: true, from: true, most: api.MaxRegs - 1}
	case api.StmtPut:
		return shape{known: true, name: true, most: api.MaxRegs - 1, args: 1}
	case api.StmtStore:
		return shape{known: true, name: true, args: 2}
	case api.StmtLock:
		return shape{known: true, name: true, then: true}
	case api.StmtIf:
		return shape{known: true, args: 1, then: true, orElse: true}
	case api.StmtRepeat:
		return shape{known: true, most: api.MaxRepeat, then: true}
	case api.StmtHalt:
		return shape{known: true}
	}
	return shape{}
}

// fitsExpr and fitsStmt look at what is not within another part: what is within is for areExprs and areStmts to look at.
func (w shape) fitsExpr(e api.Expr) bool {
	return w.known &&
		numbers(e.Op) == w.op &&
		isWithin(e.N, 0, w.most) &&
		isNameIf(w.name, e.Name) &&
		len(e.Args) == w.args
}

func (w shape) fitsStmt(s api.Stmt) bool {
	return w.known &&
		isNameIf(w.name, s.Name) &&
		isNameIf(w.from, s.From) &&
		isWithin(s.N, 0, w.most) &&
		len(s.Args) == w.args &&
		(w.then || len(s.Then) == 0) &&
		(w.orElse || len(s.Else) == 0)
}

// isNameIf tells whether a text is a name, or, where there is none, empty.
func isNameIf(some bool, s string) bool {
	if some {
		return token.Name(s)
	}
	return s == ""
}

// numbers is of how many numbers an operator is: 0, if it is 0, and below 0, if there is no such operator.
func numbers(op int) int {
	if op == 0 {
		return 0
	}
	if _, ok := wrap.One(op, 0); ok {
		return 1
	}
	if wrap.Level(op) > 0 {
		return 2
	}
	return -1
}

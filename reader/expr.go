package reader

import (
	"headstock/api"
	"headstock/wrap"
)

// onlyExpr is an expression with nothing behind it.
func (r *reader) onlyExpr() api.Expr {
	e := r.expr(1, 1)
	if !r.isAtEnd() {
		r.refuse()
	}
	return e
}

// exprTo is an expression with the sign that must be behind it.
func (r *reader) exprTo(end string, deep int) api.Expr {
	e := r.expr(1, deep)
	r.must(end)
	return e
}

// expr is an expression whose parts stand so deep, as far as its operators are of the least level or above it.
func (r *reader) expr(least, deep int) api.Expr {
	e := r.part(deep)
	for {
		op := r.operator(api.OpAdd, api.OpNe)
		// No operator has the level 0, which is below each least one.
		level := wrap.Level(op)
		if level < least {
			return e
		}
		r.pass()
		// What is of the same level is left to this loop, so that those to the left come first.
		e = api.Expr{Kind: api.ExprTwo, Op: op, Args: []api.Expr{e, r.expr(level+1, deep)}}
	}
}

func (r *reader) part(deep int) api.Expr {
	r.descend(deep)
	if op := r.operator(api.OpNeg, api.OpInv); op != 0 {
		r.pass()
		return api.Expr{Kind: api.ExprOne, Op: op, Args: []api.Expr{r.part(deep + 1)}}
	}
	if r.take("(") {
		return r.exprTo(")", deep+1)
	}
	if r.next().Kind == api.TokNumber {
		return api.Expr{Kind: api.ExprNum, N: r.number()}
	}
	name := r.name()
	if r.take("[") {
		return api.Expr{Kind: api.ExprAt, Name: name, Args: []api.Expr{r.exprTo("]", deep+1)}}
	}
	return api.Expr{Kind: api.ExprVar, Name: name}
}

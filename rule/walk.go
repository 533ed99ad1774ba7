package rule

import (
	"iter"

	"headstock/api"
)

// walk tells statements, and keeps what holds where it is: one list that grows and shrinks, for a copy at each lock would take too long where many are in one another.
type walk struct {
	held  []string
	yield func(api.Stmt, []string) bool
}

// statements are all statements, those in others, too, by their numbers, each with the names of the resources that hold there. These names are another statement's as soon as the next one is asked for.
func statements(l []api.Stmt) iter.Seq2[api.Stmt, []string] {
	return func(yield func(api.Stmt, []string) bool) {
		w := walk{yield: yield}
		w.tell(l)
	}
}

// tell tells whether more is asked for.
func (w *walk) tell(l []api.Stmt) bool {
	for _, s := range l {
		if !w.yield(s, w.held) {
			return false
		}
		outer := len(w.held)
		if s.Kind == api.StmtLock {
			w.held = append(w.held, s.Name)
		}
		if !w.tell(s.Then) || !w.tell(s.Else) {
			return false
		}
		w.held = w.held[:outer]
	}
	return true
}

// expressions are all expressions, those in others, too: each ahead of those in it.
func expressions(l []api.Expr) iter.Seq[api.Expr] {
	return func(yield func(api.Expr) bool) { tellExprs(l, yield) }
}

// tellExprs tells whether more is asked for.
func tellExprs(l []api.Expr, yield func(api.Expr) bool) bool {
	for _, e := range l {
		if !yield(e) || !tellExprs(e.Args, yield) {
			return false
		}
	}
	return true
}

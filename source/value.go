package source

import (
	"slices"

	"headstock/api"
	"headstock/rule"
	"headstock/wrap"
)

// missing is what a panic tells where something is asked for that is not there.
type missing struct{}

// attempt tells whether all that was asked for meanwhile was there.
func attempt(f func()) (found bool) {
	defer func() {
		switch y := recover().(type) {
		case nil, missing:
			// Where something was missing, found is still false.
		default:
			// What is not an expression's fault is not hidden behind an answer.
			panic(y)
		}
	}()
	f()
	return true
}

func must(n int, found bool) int {
	if !found {
		panic(missing{})
	}
	return n
}

// place is a place, if it is one of so many.
func place(n, all int) int { return must(n, n >= 0 && n < all) }

// scope is a work of a source, to which expressions belong.
type scope struct {
	*own
	work *api.Work
}

func (c scope) value(e api.Expr) int {
	switch e.Kind {
	case api.ExprNum:
		return wrap.Wrap(e.N)
	case api.ExprVar:
		return *c.local(e.Name)
	case api.ExprOne:
		return must(wrap.One(e.Op, c.arg(e.Args, 0)))
	case api.ExprTwo:
		return must(wrap.Two(e.Op, c.arg(e.Args, 0), c.arg(e.Args, 1)))
	case api.ExprAt:
		return *c.word(e.Name, c.arg(e.Args, 0))
	}
	return must(0, false)
}

// arg is the value of one of an expression's, or a statement's, Args.
func (c scope) arg(l []api.Expr, which int) int { return c.value(l[place(which, len(l))]) }

func (c scope) local(name string) *int {
	l := c.work.Locals
	return &l[place(slices.Index(c.localsOf(c.work.Task), name), len(l))]
}

func (c scope) word(resource string, at int) *int {
	l := c.Words[place(rule.Resource(c.Program, resource), len(c.Words))]
	return &l[place(at, len(l))]
}

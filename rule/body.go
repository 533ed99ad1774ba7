package rule

import (
	"slices"

	"headstock/api"
)

// bodyFault is what is wrong with the first statement that may not be, and its number.
func bodyFault(p api.Program, body []api.Stmt) (api.Errno, int) {
	number := 0
	for s, held := range statements(body) {
		if err := stmtFault(p, s, held); err != api.OK {
			return err, number
		}
		number++
	}
	return api.OK, 0
}

// stmtFault is what is wrong with a statement, where these resources hold: whatever is in it, but its expressions.
func stmtFault(p api.Program, s api.Stmt, held []string) api.Errno {
	if err := namesFault(p, s, held); err != api.OK {
		return err
	}
	for e := range expressions(s.Args) {
		if err := exprFault(p, e, held); err != api.OK {
			return err
		}
	}
	return api.OK
}

// namesFault is what is wrong with the names that a statement has itself.
func namesFault(p api.Program, s api.Stmt, held []string) api.Errno {
	switch s.Kind {
	case api.StmtSet:
		return localFault(p, s.Name)
	case api.StmtGet:
		if err := localFault(p, s.Name); err != api.OK {
			return err
		}
		return deviceFault(p, s.From)
	case api.StmtPut:
		return deviceFault(p, s.Name)
	case api.StmtStore:
		return wordFault(p, s.Name, held)
	case api.StmtLock:
		return lockFault(p, s.Name, held)
	}
	return api.OK
}

// exprFault is what is wrong with an expression, whatever is in it.
func exprFault(p api.Program, e api.Expr, held []string) api.Errno {
	switch e.Kind {
	case api.ExprVar:
		return localFault(p, e.Name)
	case api.ExprAt:
		return wordFault(p, e.Name, held)
	}
	return api.OK
}

// localFault is what is wrong with a local of that name.
func localFault(p api.Program, name string) api.Errno {
	isTask := func(t api.Task) bool { return t.Name == name }
	if Device(p, name) >= 0 || Resource(p, name) >= 0 || slices.ContainsFunc(p.Tasks, isTask) {
		return api.ErrTwice
	}
	return api.OK
}

func deviceFault(p api.Program, name string) api.Errno {
	if Device(p, name) < 0 {
		return api.ErrUnknown
	}
	return api.OK
}

// wordFault is what is wrong with touching a word of a resource, while these hold.
func wordFault(p api.Program, name string, held []string) api.Errno {
	if Resource(p, name) < 0 {
		return api.ErrUnknown
	}
	if !slices.Contains(held, name) {
		return api.ErrFree
	}
	return api.OK
}

// lockFault is what is wrong with locking a resource, while these hold.
func lockFault(p api.Program, name string, held []string) api.Errno {
	place := Resource(p, name)
	if place < 0 {
		return api.ErrUnknown
	}
	if slices.ContainsFunc(held, func(other string) bool { return Resource(p, other) >= place }) {
		return api.ErrOrder
	}
	return api.OK
}

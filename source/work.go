package source

import (
	"slices"

	"headstock/api"
	"headstock/rule"
	"headstock/syntax"
)

// leaves is the kind of a deed that is no statement, but that a resource is left.
const leaves = 0

// begun is a task's work at its beginning.
func begun(p api.Program, task int) api.Work {
	t := p.Tasks[task]
	return api.Work{Task: task, Locals: make([]int, len(rule.Locals(t))), Left: ahead(nil, t.Body)}
}

// ahead is what is left with statements ahead of it: they are put behind it, the first one last, for the last deed is next.
func ahead(left []api.Deed, l []api.Stmt) []api.Deed {
	for _, s := range slices.Backward(l) {
		left = append(left, api.Deed{Stmt: s, Leave: -1})
	}
	return left
}

func areSameWorks(a, b []api.Work) bool {
	return slices.EqualFunc(a, b, func(a, b api.Work) bool {
		return a.Task == b.Task && slices.Equal(a.Locals, b.Locals) && slices.EqualFunc(a.Left, b.Left, areSameDeeds)
	})
}

func areSameDeeds(a, b api.Deed) bool {
	return a.Leave == b.Leave && syntax.Same(alone(a.Stmt), alone(b.Stmt))
}

// alone is a program that has that statement and nothing else, for programs are what can be asked whether they are the same.
func alone(s api.Stmt) api.Program {
	return api.Program{Tasks: []api.Task{{Body: []api.Stmt{s}}}}
}

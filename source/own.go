package source

import (
	"slices"

	"headstock/api"
	"headstock/rule"
)

// own is a source, with the names of each task's locals, as far as they have been asked for.
type own struct {
	api.Source
	names [][]string
}

// looked is a source to be looked at alone.
func looked(s api.Source) *own {
	return &own{Source: s, names: make([][]string, len(s.Program.Tasks))}
}

// owned is a source all lists of which are its own, so that a choice may write into them. Trees are not copied: nobody writes into them.
func owned(s api.Source) *own {
	s.Program = ownedProgram(s.Program)
	s.Words = slices.Clone(s.Words)
	for i := range s.Words {
		s.Words[i] = slices.Clone(s.Words[i])
	}
	s.Devices = slices.Clone(s.Devices)
	for i := range s.Devices {
		s.Devices[i].Queue = slices.Clone(s.Devices[i].Queue)
	}
	s.Works = slices.Clone(s.Works)
	for i := range s.Works {
		s.Works[i] = ownedWorks(s.Works[i])
	}
	s.Owners = slices.Clone(s.Owners)
	s.Raised = slices.Clone(s.Raised)
	s.Trace = slices.Clone(s.Trace)
	return looked(s)
}

func ownedProgram(p api.Program) api.Program {
	p.Devices = slices.Clone(p.Devices)
	p.Resources = slices.Clone(p.Resources)
	p.Tasks = slices.Clone(p.Tasks)
	return p
}

func ownedWorks(l []api.Work) []api.Work {
	l = slices.Clone(l)
	for i := range l {
		l[i].Locals = slices.Clone(l[i].Locals)
		l[i].Left = slices.Clone(l[i].Left)
	}
	return l
}

// localsOf are the names of a task's locals. They are kept while the call lasts: to find them all of the task is gone through, and each step of a script may ask for them.
func (o *own) localsOf(task int) []string {
	task = place(task, len(o.names))
	if o.names[task] == nil {
		o.names[task] = rule.Locals(o.Program.Tasks[task])
	}
	return o.names[task]
}

func hasHart(s api.Source, hart int) bool { return hart >= 0 && hart < len(s.Works) }

// heldBy are the places of the resources that a hart holds.
func heldBy(s api.Source, hart int) []int {
	var held []int
	for which, owner := range s.Owners {
		if owner == hart {
			held = append(held, which)
		}
	}
	return held
}

// handlerOf is the place of the task that a line's interrupt begins; below 0: there is none.
func handlerOf(p api.Program, line int) int {
	return slices.IndexFunc(p.Tasks, func(t api.Task) bool { return t.Handler && t.Line == line })
}

// priorityOf is a task's; of no task it is 0.
func priorityOf(p api.Program, task int) int {
	if task < 0 || task >= len(p.Tasks) {
		return 0
	}
	return p.Tasks[task].Priority
}

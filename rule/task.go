package rule

import (
	"slices"

	"headstock/api"
)

// hasTwins tells whether two of a program have one name.
func hasTwins(p api.Program) bool {
	var names []string
	for _, d := range p.Devices {
		names = append(names, d.Name)
	}
	for _, r := range p.Resources {
		names = append(names, r.Name)
	}
	for _, t := range p.Tasks {
		names = append(names, t.Name)
	}
	n := len(names)
	slices.Sort(names)
	return len(slices.Compact(names)) < n
}

// taskFault is what is wrong with the task at a place, whatever its statements are.
func taskFault(p api.Program, place int) api.Errno {
	t, ahead := p.Tasks[place], p.Tasks[:place]
	isOfHart := func(x api.Task) bool { return !x.Handler && x.Hart == t.Hart }
	isOfLine := func(x api.Task) bool { return x.Handler && x.Line == t.Line }
	isNotBelow := func(x api.Task) bool { return isOfHart(x) && x.Priority >= t.Priority }
	switch {
	case t.Hart >= p.Harts, !t.Handler && slices.ContainsFunc(ahead, isOfHart):
		return api.ErrHart
	case t.Handler && slices.ContainsFunc(ahead, isOfLine):
		return api.ErrLine
	case t.Handler && slices.ContainsFunc(p.Tasks, isNotBelow):
		return api.ErrBelow
	}
	return api.OK
}

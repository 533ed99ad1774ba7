package ceiling

import (
	"headstock/api"
	"headstock/rule"
)

// locks tell of each resource, by its place, whether it is locked.
type locks [api.MaxResources]bool

// add adds all that these statements lock, of a program that may be: so what they lock is there.
func (l *locks) add(p api.Program, body []api.Stmt) {
	for _, s := range body {
		if s.Kind == api.StmtLock {
			l[rule.Resource(p, s.Name)] = true
		}
		l.add(p, s.Then)
		l.add(p, s.Else)
	}
}

func locksOf(p api.Program, t api.Task) locks {
	var l locks
	l.add(p, t.Body)
	return l
}

// ceilingsOf are the ceilings on a hart, of a program that may be.
func ceilingsOf(p api.Program, hart int) []int {
	ceilings := make([]int, len(p.Resources))
	for _, t := range p.Tasks {
		if t.Hart == hart {
			raise(ceilings, locksOf(p, t), t.Priority)
		}
	}
	return ceilings
}

// raise raises, to the priority of a task that locks these, the ceiling of the first of them and of all behind it.
func raise(ceilings []int, l locks, priority int) {
	isAhead := false
	for place := range ceilings {
		isAhead = isAhead || l[place]
		if isAhead {
			ceilings[place] = max(ceilings[place], priority)
		}
	}
}

// mayBe tells whether anything is told of a program.
func mayBe(p api.Program) bool {
	err, _ := rule.Check(p)
	return err == api.OK
}

// hasHart tells whether a program may be, and has that hart.
func hasHart(p api.Program, hart int) bool {
	return mayBe(p) && hart >= 0 && hart < p.Harts
}

package ceiling_test

import (
	"math"
	"slices"
	"testing"

	"headstock/api"
	"headstock/ceiling"
	"headstock/reader"
	"headstock/rule"
	"headstock/syntax"
)

// What the chapter's words say, written out here by themselves.

// told tells whether anything is told of a program.
func told(p api.Program) bool {
	err, _ := rule.Check(p)
	return err == api.OK
}

func isHart(p api.Program, hart int) bool { return told(p) && 0 <= hart && hart < p.Harts }

// lockNames are the names of all StmtLocks, in one another or not.
func lockNames(l []api.Stmt) []string {
	var names []string
	for _, s := range l {
		if s.Kind == api.StmtLock {
			names = append(names, s.Name)
		}
		names = slices.Concat(names, lockNames(s.Then), lockNames(s.Else))
	}
	return names
}

func wantLocks(p api.Program, task int) []int {
	var l []int
	if !told(p) || task < 0 || task >= len(p.Tasks) {
		return l
	}
	names := lockNames(p.Tasks[task].Body)
	for place, r := range p.Resources {
		if slices.Contains(names, r.Name) {
			l = append(l, place)
		}
	}
	return l
}

// wantCeiling is a resource's ceiling on a hart: it looks at each resource up to that one, and at who locks it.
func wantCeiling(p api.Program, hart, resource int) int {
	greatest := 0
	for _, r := range p.Resources[:resource+1] {
		for _, x := range p.Tasks {
			if x.Hart == hart && slices.Contains(lockNames(x.Body), r.Name) && x.Priority > greatest {
				greatest = x.Priority
			}
		}
	}
	return greatest
}

func wantCeilings(p api.Program) [][]int {
	var all [][]int
	if !told(p) {
		return all
	}
	for hart := 0; hart < p.Harts; hart++ {
		var l []int
		for resource := range p.Resources {
			l = append(l, wantCeiling(p, hart, resource))
		}
		all = append(all, l)
	}
	return all
}

func wantLevel(p api.Program, hart, priority int, held []int) int {
	if !isHart(p, hart) {
		return 0
	}
	l := []int{priority}
	for place := range p.Resources {
		if slices.Contains(held, place) {
			l = append(l, wantCeiling(p, hart, place))
		}
	}
	return slices.Max(l)
}

// wantStarts goes down through the priorities that there are.
func wantStarts(p api.Program, hart, level int) []int {
	var l []int
	if !isHart(p, hart) {
		return l
	}
	for priority := api.MaxPriority; priority >= 1 && priority > level; priority-- {
		for i, x := range p.Tasks {
			if x.Handler && x.Hart == hart && x.Priority == priority {
				l = append(l, i)
			}
		}
	}
	return l
}

func wantChain(p api.Program, hart int) int {
	if !isHart(p, hart) {
		return 0
	}
	tasks, priorities := map[int]bool{}, map[int]bool{}
	for _, x := range p.Tasks {
		if x.Hart == hart && x.Handler {
			priorities[x.Priority] = true
		} else if x.Hart == hart {
			tasks[x.Priority] = true
		}
	}
	return min(len(tasks), 1) + len(priorities)
}

// someNumbers are harts, tasks and levels that there are, and such as there are not.
var someNumbers = []int{0, 1, 2, 3, 4, 5, 6, 7, 8, 15, 16, 17, -1, -2, 1 << 32, 1<<32 + 1, math.MaxInt, math.MinInt}

// someHeld are resources that may be held, and such as there are not.
var someHeld = [][]int{nil, {}, {0}, {1}, {2}, {7}, {8}, {-1}, {0, 1}, {1, 0}, {2, 2, 0}, {math.MinInt, 1, math.MaxInt}, {1 << 32, 1 << 33}, {0, 1, 2, 3, 4, 5, 6, 7, 8}}

// holds holds all that is told of a program against the words.
func holds(t *testing.T, p api.Program) {
	t.Helper()
	same := slices.Equal[[]int]
	if got, want := ceiling.Ceilings(p), wantCeilings(p); !slices.EqualFunc(got, want, same) {
		t.Fatalf("ceilings %v, not %v:\n%s", got, want, short(p))
	}
	for _, n := range someNumbers {
		if got, want := ceiling.Locks(p, n), wantLocks(p, n); !same(got, want) {
			t.Fatalf("locks of %d: %v, not %v:\n%s", n, got, want, short(p))
		}
		if got, want := ceiling.Chain(p, n), wantChain(p, n); got != want {
			t.Fatalf("chain of %d: %d, not %d:\n%s", n, got, want, short(p))
		}
	}
	for _, hart := range []int{0, 1, 2, 3, 4, -1, math.MaxInt, math.MinInt} {
		for _, n := range someNumbers {
			if got, want := ceiling.Starts(p, hart, n), wantStarts(p, hart, n); !same(got, want) {
				t.Fatalf("starts of %d at %d: %v, not %v:\n%s", hart, n, got, want, short(p))
			}
		}
		for i, held := range someHeld {
			n := someNumbers[i]
			if got, want := ceiling.Level(p, hart, n, held), wantLevel(p, hart, n, held); got != want {
				t.Fatalf("level of %d at %d with %v: %d, not %d:\n%s", hart, n, held, got, want, short(p))
			}
		}
	}
}

// program is a text's tree, of a program that may be.
func program(t *testing.T, text string) api.Program {
	t.Helper()
	p, err, line := reader.Parse(text)
	if err != api.OK {
		t.Fatalf("%v, line %d: %s", err, line, text)
	}
	if !told(p) {
		t.Fatalf("may not be: %s", text)
	}
	return p
}

// short is the beginning of what a program's text is.
func short(p api.Program) string {
	s, _ := syntax.Print(p)
	return s[:min(len(s), 1000)]
}

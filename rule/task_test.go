package rule_test

import (
	"strconv"
	"strings"
	"testing"

	"headstock/api"
	"headstock/rule"
)

// U2: what is wrong with a task, and with which.
func TestTasks(t *testing.T) {
	for _, x := range []struct {
		text string
		err  api.Errno
		task int
	}{
		{"harts 1 task s 0 1 { }", api.OK, 0},
		{"harts 4 task s 3 7 { } task t 0 1 { } task u 2 1 { } task v 1 1 { }", api.OK, 0},
		{"harts 4 handler h 2 1 0 { }", api.OK, 0},

		{"harts 1 task s 1 1 { }", api.ErrHart, 0},
		{"harts 3 task s 3 1 { }", api.ErrHart, 0},
		{"harts 3 task s 2 1 { } task t 0 1 { } handler h 3 2 0 { }", api.ErrHart, 2},
		{"harts 1 handler h 1 2 0 { }", api.ErrHart, 0},
		{"harts 1 task s 0 1 { } task t 0 1 { }", api.ErrHart, 1},
		{"harts 2 task s 0 1 { } task t 1 1 { } handler h 0 4 0 { } task u 0 3 { }", api.ErrHart, 3},
		{"harts 2 handler h 0 2 0 { } task s 0 1 { } handler i 0 2 1 { } task t 1 1 { }", api.OK, 0},

		{"harts 1 handler h 0 1 0 { } handler i 0 1 1 { } handler j 0 1 7 { }", api.OK, 0},
		{"harts 1 handler h 0 1 3 { } handler i 0 2 3 { }", api.ErrLine, 1},
		{"harts 2 handler h 0 1 0 { } handler i 1 2 0 { }", api.ErrLine, 1},
		{"harts 2 handler h 0 2 7 { } task s 1 1 { } handler i 0 2 6 { } handler j 1 2 7 { }", api.ErrLine, 3},
		{"harts 1 task s 0 1 { } handler h 0 2 0 { }", api.OK, 0},

		{"harts 1 task s 0 3 { } handler h 0 4 0 { }", api.OK, 0},
		{"harts 1 task s 0 3 { } handler h 0 3 0 { }", api.ErrBelow, 1},
		{"harts 1 task s 0 3 { } handler h 0 1 0 { }", api.ErrBelow, 1},
		{"harts 1 task s 0 7 { } handler h 0 7 0 { }", api.ErrBelow, 1},
		{"harts 1 handler h 0 3 0 { } task s 0 3 { }", api.ErrBelow, 0},
		{"harts 1 handler h 0 4 0 { } handler i 0 3 1 { } task s 0 3 { }", api.ErrBelow, 1},
		{"harts 2 task s 0 3 { } handler h 1 1 0 { }", api.OK, 0},
		{"harts 2 handler h 1 1 0 { } task s 0 3 { } task t 1 1 { }", api.ErrBelow, 0},
		{"harts 1 handler h 0 5 0 { } handler i 0 1 1 { } handler j 0 5 2 { }", api.OK, 0},
		// A task counts, even if it may not be where it is.
		{"harts 1 handler h 0 3 0 { } task s 0 1 { } task t 0 5 { }", api.ErrBelow, 0},
		{"harts 1 task s 0 1 { } handler h 0 3 0 { } task t 0 5 { }", api.ErrBelow, 1},

		// Of one task the hart is ahead of the line, and that ahead of the priority.
		{"harts 1 handler h 0 1 0 { } handler i 1 1 0 { } task s 1 1 { }", api.ErrHart, 1},
		{"harts 1 task s 0 2 { } handler h 0 3 0 { } handler i 0 1 0 { }", api.ErrLine, 2},
		// Of several tasks the first one is told, whatever is wrong with it.
		{"harts 1 task s 0 2 { } handler h 0 2 0 { } handler i 0 3 0 { } task t 0 1 { }", api.ErrBelow, 1},
		{"harts 1 task s 0 2 { } handler h 0 3 0 { } handler i 0 3 0 { } task t 1 1 { }", api.ErrLine, 2},
		{"harts 1 task s 0 2 { } task t 0 2 { } handler h 0 2 0 { }", api.ErrHart, 1},
	} {
		checksText(t, x.text, x.err, x.task, 0)
		// What is wrong with statements is told, if nothing is wrong with any task.
		err, wrong := x.err, strings.ReplaceAll(x.text, "{ }", "{ lock none { } }")
		if err == api.OK {
			err = api.ErrUnknown
		}
		checksText(t, wrong, err, x.task, 0)
	}
}

// U2: all that three tasks may be on two harts, with two lines and three priorities.
func TestAllTasks(t *testing.T) {
	var all []api.Task
	for hart := range 3 {
		for priority := 1; priority <= 3; priority++ {
			all = append(all, api.Task{Hart: hart, Priority: priority})
			for line := range 2 {
				all = append(all, api.Task{Hart: hart, Priority: priority, Line: line, Handler: true})
			}
		}
	}
	found := map[api.Errno]int{}
	for i := range len(all) * len(all) * len(all) {
		p := api.Program{Harts: 2}
		for _, name := range []string{"s", "t", "u"} {
			x := all[i%len(all)]
			x.Name = name
			p.Tasks = append(p.Tasks, x)
			i /= len(all)
		}
		want := firstFault(p)
		found[want.err]++
		checks(t, p, want.err, want.at[0], want.at[1])
	}
	for _, err := range []api.Errno{api.OK, api.ErrHart, api.ErrLine, api.ErrBelow} {
		if found[err] == 0 {
			t.Errorf("no %v", err)
		}
	}
}

// U2: as many tasks as may be, on as many harts and lines; and one more of these.
func TestMostTasks(t *testing.T) {
	p := api.Program{Harts: api.MaxHarts}
	for i := range api.MaxHarts {
		p.Tasks = append(p.Tasks, api.Task{Name: "t" + strconv.Itoa(i), Hart: i, Priority: api.MaxPriority - 1})
	}
	for i := range api.MaxLines {
		p.Tasks = append(p.Tasks, api.Task{Name: "h" + strconv.Itoa(i), Hart: i % 4, Priority: api.MaxPriority, Line: i, Handler: true})
	}
	checks(t, p, api.OK, 0, 0)
	for i := range p.Tasks {
		x := p.Tasks[i]
		x.Name = "more"
		q := p
		q.Tasks = append(p.Tasks[:len(p.Tasks):len(p.Tasks)], x)
		err := api.ErrHart
		if x.Handler {
			err = api.ErrLine
		}
		checks(t, q, err, len(p.Tasks), 0)
	}
}

// U2: more of them than may be are not right, even where two have one name.
func TestTooMany(t *testing.T) {
	var p api.Program
	p.Harts = 1
	for i := range api.MaxTasks {
		p.Tasks = append(p.Tasks, api.Task{Name: "h" + strconv.Itoa(i), Priority: 1, Line: i % api.MaxLines, Handler: true})
	}
	checks(t, p, api.ErrLine, api.MaxLines, 0)
	p.Tasks = append(p.Tasks, p.Tasks[0])
	checks(t, p, api.ErrArg, 0, 0)
	if err, at := rule.Check(api.Program{Harts: 1, Tasks: make([]api.Task, 1<<20)}); err != api.ErrArg || at != [2]int{} {
		t.Error(err, at)
	}
}

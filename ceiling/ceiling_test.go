package ceiling_test

import (
	"math"
	"slices"
	"strconv"
	"testing"

	"headstock/api"
	"headstock/ceiling"
	"headstock/reader"
	"headstock/rule"
)

// someText is a program whose tasks lock resources in all the ways in which they may.
const someText = `harts 4
device d uart
resource a 1
resource b 2
resource c 8
resource e 1
handler low 0 3 0 { lock c { } }
task main 0 2 {
	lock b { if (1) { lock e { } } else { repeat 0 { x = 1; } } }
	halt;
}
handler high 0 6 7 { x = d.0; }
handler mid 0 5 1 { lock b { b[1] = 2; } }
task other 1 4 { lock a { lock b { lock c { lock e { } } } } }
handler alike 0 5 2 { lock e { } lock c { } lock e { } }
handler third 2 1 3 { lock a { a[0] = 1; } }
handler fourth 2 7 4 { repeat 3 { if (0) { } else { lock e { } } } }
handler first 0 5 5 { }
`

func same(a, b []int) bool { return slices.Equal(a, b) }

// V1: what each task of a program locks.
func TestLocks(t *testing.T) {
	p := program(t, someText)
	for i, want := range [][]int{{2}, {1, 3}, {}, {1}, {0, 1, 2, 3}, {2, 3}, {0}, {3}, {}} {
		if got := ceiling.Locks(p, i); !same(got, want) {
			t.Errorf("%s: %v, not %v", p.Tasks[i].Name, got, want)
		}
	}
	for _, i := range []int{-1, 9, 10, 16, 1 << 32, -1 << 32, math.MinInt, math.MaxInt} {
		if got := ceiling.Locks(p, i); len(got) != 0 {
			t.Errorf("%d: %v", i, got)
		}
	}
	holds(t, p)
}

// V1: locks at each place where one may stand, each told once, rising.
func TestLocksOfBodies(t *testing.T) {
	for body, want := range map[string][]int{
		"": {}, "halt;": {}, "x = 1; d.0 = x; x = d.1;": {}, "if (1) { } else { } repeat 2 { }": {},
		"lock a { }": {0}, "lock b { }": {1}, "lock h { }": {7}, "lock a { } lock a { }": {0}, "repeat 0 { lock c { } }": {2}, "if (0) { lock c { } }": {2},
		"lock c { } lock a { } lock b { }": {0, 1, 2}, "lock h { } lock a { } lock h { }": {0, 7},
		"lock a { lock h { } }": {0, 7}, "lock b { lock c { lock g { } } lock c { } }": {1, 2, 6},
		"if (1) { lock g { } } else { lock f { } }": {5, 6}, "if (1) { } else { lock e { } }": {4}, "if (1) { lock e { } } else { }": {4},
		"repeat 1 { if (1) { repeat 2 { lock d1 { } } } else { if (2) { } else { repeat 3 { lock b { } } } } }": {1, 3},
		"halt; lock a { }": {0}, "lock b { b[0] = 1; x = b[1]; } y = 1; lock a { a[0] = 1; halt; }": {0, 1},
		"lock a { lock b { lock c { lock d1 { lock e { lock f { lock g { lock h { } } } } } } } }": {0, 1, 2, 3, 4, 5, 6, 7},
		"lock h { } lock g { } lock f { } lock e { } lock d1 { } lock c { } lock b { } lock a { }": {0, 1, 2, 3, 4, 5, 6, 7},
	} {
		const head = "harts 1 device d uart resource a 1 resource b 2 resource c 1 resource d1 1 resource e 1 resource f 1 resource g 1 resource h 1 "
		for _, task := range []string{"task t 0 1 { " + body + " }", "handler t 0 7 7 { " + body + " }"} {
			p := program(t, head+task)
			if got := ceiling.Locks(p, 0); !same(got, want) {
				t.Errorf("%s: %v, not %v", body, got, want)
			}
			holds(t, p)
			p = program(t, head+"handler more 0 2 6 { lock a { } lock e { } } "+task)
			if got := ceiling.Locks(p, 1); !same(got, want) {
				t.Errorf("as the second one %s: %v, not %v", body, got, want)
			}
			holds(t, p)
		}
	}
}

// V1: the ceilings of each hart, by those that lock a resource, or one ahead of it.
func TestCeilings(t *testing.T) {
	for text, want := range map[string][][]int{
		someText:  {{0, 5, 5, 5}, {4, 4, 4, 4}, {1, 1, 1, 7}, {0, 0, 0, 0}},
		"harts 1": {{}}, "harts 4": {{}, {}, {}, {}},
		"harts 1 resource a 1": {{0}}, "harts 3 resource a 1 resource b 1": {{0, 0}, {0, 0}, {0, 0}},
		"harts 1 resource a 1 task t 0 3 { }":                                                                                                   {{0}},
		"harts 1 resource a 1 task t 0 3 { lock a { } }":                                                                                        {{3}},
		"harts 2 resource a 1 task t 0 3 { lock a { } }":                                                                                        {{3}, {0}},
		"harts 2 resource a 1 task t 1 3 { lock a { } }":                                                                                        {{0}, {3}},
		"harts 2 resource a 1 handler t 1 7 0 { lock a { } }":                                                                                   {{0}, {7}},
		"harts 1 resource a 1 resource b 1 task t 0 1 { lock a { } }":                                                                           {{1, 1}},
		"harts 1 resource a 1 resource b 1 task t 0 1 { lock b { } }":                                                                           {{0, 1}},
		"harts 1 resource a 1 resource b 1 resource c 1 task t 0 1 { lock b { } } handler h 0 5 0 { lock c {} }":                                {{0, 1, 5}},
		"harts 1 resource a 1 resource b 1 resource c 1 task t 0 1 { lock c { } } handler h 0 5 0 { lock b {} }":                                {{0, 5, 5}},
		"harts 1 resource a 1 resource b 1 resource c 1 task t 0 1 { lock a { } } handler h 0 5 0 { lock b {} }":                                {{1, 5, 5}},
		"harts 1 resource a 1 handler h 0 2 0 { lock a { } } handler i 0 6 1 { lock a { } } handler j 0 4 2 { lock a { } } handler k 0 7 3 { }": {{6}},
		"harts 2 resource a 1 resource b 1 handler h 0 6 0 { lock a { } } handler i 1 5 1 { lock b { } } task t 1 2 { lock a { } }":             {{6, 6}, {2, 5}},
	} {
		p := program(t, text)
		if got := ceiling.Ceilings(p); !slices.EqualFunc(got, want, same) {
			t.Errorf("%s: %v, not %v", text, got, want)
		}
		holds(t, p)
	}
}

// V2: the greatest of a priority and the ceilings of what is held.
func TestLevel(t *testing.T) {
	p := program(t, someText)
	for _, x := range []struct {
		hart, priority int
		held           []int
		want           int
	}{
		{0, 2, nil, 2}, {0, 2, []int{}, 2}, {0, 2, []int{0}, 2}, {0, 2, []int{1}, 5}, {0, 6, []int{1, 2, 3}, 6}, {0, 5, []int{3}, 5},
		{2, 1, []int{0}, 1}, {2, 1, []int{3}, 7}, {2, 1, []int{3, 0}, 7}, {2, 1, []int{0, 3, 0}, 7}, {2, 0, []int{2, 2, 1}, 1},
		{1, 4, []int{3}, 4}, {1, 0, []int{1}, 4}, {3, 0, []int{0, 1, 2, 3}, 0}, {3, 7, []int{0}, 7}, {3, 0, nil, 0},
		// No resources' places count nothing.
		{0, 2, []int{-1, 4, 8, math.MinInt, math.MaxInt, 1 << 32, -1 << 32}, 2}, {0, 2, []int{-1, 1, 4}, 5}, {2, 1, []int{4, 3}, 7}, {2, 1, []int{-4, -1}, 1},
		// Any number may be a priority.
		{0, -9, nil, -9}, {0, -9, []int{4, -1}, -9}, {0, -9, []int{0}, 0}, {0, -9, []int{1}, 5}, {0, 8, []int{1}, 8}, {3, -1, []int{3}, 0},
		{0, math.MinInt, nil, math.MinInt}, {0, math.MaxInt, []int{1}, math.MaxInt}, {0, math.MinInt, []int{1}, 5},
		// No such hart.
		{-1, 7, []int{1}, 0}, {4, 7, []int{1}, 0}, {5, -7, nil, 0}, {math.MinInt, 7, nil, 0}, {math.MaxInt, 7, nil, 0}, {1 << 32, 7, []int{1}, 0},
	} {
		if got := ceiling.Level(p, x.hart, x.priority, x.held); got != x.want {
			t.Errorf("hart %d, priority %d, held %v: %d, not %d", x.hart, x.priority, x.held, got, x.want)
		}
		if got := wantLevel(p, x.hart, x.priority, x.held); got != x.want {
			t.Errorf("by the words hart %d, priority %d, held %v: %d, not %d", x.hart, x.priority, x.held, got, x.want)
		}
	}
	two := program(t, "harts 2 resource a 1 task t 1 3 { lock a { } }")
	for hart, want := range map[int]int{0: 1, 1: 3, 2: 0, 3: 0} {
		if got := ceiling.Level(two, hart, 1, []int{0}); got != want {
			t.Errorf("of two, hart %d: %d, not %d", hart, got, want)
		}
	}
}

// V3: the handlers above a level, the highest ahead, of one priority those ahead in the program.
func TestStarts(t *testing.T) {
	p := program(t, someText)
	for _, x := range []struct {
		hart, level int
		want        []int
	}{
		{0, 0, []int{2, 3, 5, 8, 0}}, {0, 1, []int{2, 3, 5, 8, 0}}, {0, 2, []int{2, 3, 5, 8, 0}}, {0, 3, []int{2, 3, 5, 8}}, {0, 4, []int{2, 3, 5, 8}},
		{0, 5, []int{2}}, {0, 6, nil}, {0, 7, nil}, {0, 8, nil}, {0, -1, []int{2, 3, 5, 8, 0}},
		{0, math.MinInt, []int{2, 3, 5, 8, 0}}, {0, math.MaxInt, nil}, {0, 1 << 32, nil}, {0, -1 << 32, []int{2, 3, 5, 8, 0}},
		{1, 0, nil}, {1, -1, nil}, {3, 0, nil}, {2, 0, []int{7, 6}}, {2, 1, []int{7}}, {2, 6, []int{7}}, {2, 7, nil},
		{-1, 0, nil}, {4, 0, nil}, {math.MinInt, 0, nil}, {math.MaxInt, -1, nil}, {1 << 32, 0, nil},
	} {
		if got := ceiling.Starts(p, x.hart, x.level); !same(got, x.want) {
			t.Errorf("hart %d, level %d: %v, not %v", x.hart, x.level, got, x.want)
		}
		if got := wantStarts(p, x.hart, x.level); !same(got, x.want) {
			t.Errorf("by the words hart %d, level %d: %v, not %v", x.hart, x.level, got, x.want)
		}
	}
}

// V3: all handlers of one priority, in any order of lines, start as they stand.
func TestStartsAlike(t *testing.T) {
	p := api.Program{Harts: 1}
	for i := range api.MaxLines {
		p.Tasks = append(p.Tasks, api.Task{Name: "h" + strconv.Itoa(9-i), Handler: true, Priority: 4, Line: (i*3 + 5) % 8})
	}
	if got := ceiling.Starts(p, 0, 3); !same(got, []int{0, 1, 2, 3, 4, 5, 6, 7}) {
		t.Error(got)
	}
	for i := range p.Tasks {
		p.Tasks[i].Priority = 1 + i%2*6
	}
	if got := ceiling.Starts(p, 0, 0); !same(got, []int{1, 3, 5, 7, 0, 2, 4, 6}) {
		t.Error(got)
	}
	for i := range p.Tasks {
		p.Tasks[i].Priority = min(1+i, 7)
	}
	if got := ceiling.Starts(p, 0, 2); !same(got, []int{6, 7, 5, 4, 3, 2}) {
		t.Error(got)
	}
	holds(t, p)
}

// V3: how many tasks may be at work at once.
func TestChain(t *testing.T) {
	for text, want := range map[string][]int{
		someText:  {4, 1, 2, 0, 0},
		"harts 1": {0, 0, 0}, "harts 2": {0, 0, 0}, "harts 1 task t 0 7 { }": {1, 0}, "harts 2 task t 1 1 { halt; }": {0, 1, 0},
		"harts 1 handler h 0 3 0 { }":                                                   {1, 0},
		"harts 1 handler h 0 3 0 { } handler i 0 3 1 { }":                               {1, 0},
		"harts 1 handler h 0 3 0 { } handler i 0 4 1 { }":                               {2, 0},
		"harts 1 handler h 0 4 0 { } handler i 0 3 1 { } handler j 0 4 2 { }":           {2, 0},
		"harts 2 handler h 0 4 0 { } handler i 1 3 1 { } handler j 0 5 2 { }":           {2, 1, 0},
		"harts 1 task t 0 1 { } handler h 0 4 0 { } handler i 0 4 1 { }":                {2, 0},
		"harts 1 handler h 0 2 0 { } handler i 0 7 1 { } task t 0 1 { }":                {3, 0},
		"harts 2 task s 1 1 { } handler h 0 2 0 { } handler i 1 2 1 { } task t 0 1 { }": {2, 2, 0},
		// What is locked makes no difference.
		"harts 1 resource r 1 handler h 0 2 0 { lock r { } } handler i 0 7 1 { lock r { } } task t 0 1 { lock r { } }": {3, 0},
	} {
		p := program(t, text)
		for hart, n := range want {
			if got := ceiling.Chain(p, hart); got != n {
				t.Errorf("%s: hart %d: %d, not %d", text, hart, got, n)
			}
		}
		for _, hart := range []int{-1, 4, 5, 1 << 32, math.MinInt, math.MaxInt} {
			if got := ceiling.Chain(p, hart); got != 0 {
				t.Errorf("%s: hart %d: %d", text, hart, got)
			}
		}
		holds(t, p)
	}
}

// V1 to V3: the chapter's example, and the document's fifth.
func TestExample(t *testing.T) {
	p := program(t, "harts 1 resource r 1 task t 0 1 { lock r { } } handler h 0 5 0 { lock r { } } handler i 0 4 1 { } handler j 0 6 2 { }")
	if got := ceiling.Ceilings(p); !slices.EqualFunc(got, [][]int{{5}}, same) {
		t.Error(got)
	}
	if got := ceiling.Starts(p, 0, ceiling.Level(p, 0, 1, nil)); !same(got, []int{3, 1, 2}) {
		t.Error(got)
	}
	if got := ceiling.Starts(p, 0, ceiling.Level(p, 0, 1, []int{0})); !same(got, []int{3}) {
		t.Error(got)
	}
}

// V1 to V3: nothing is told of what Check has an error of, whichever it is.
func TestNothing(t *testing.T) {
	const head = "harts 2 device d uart resource a 1 resource b 1 task t 0 1 { lock a { lock b { } } } handler h 0 3 0 { lock a { } } handler i 1 4 1 { lock b { } } "
	program(t, head)
	found := map[api.Errno]bool{}
	for _, more := range []string{
		"task a 1 1 { }", "handler h 1 5 2 { }", "task d 1 1 { }",
		"task s 0 1 { }", "task s 2 1 { }", "handler s 3 7 7 { }", "handler s 1 7 1 { }", "handler s 0 1 7 { }", "task s 1 4 { }",
		"task s 1 1 { x = c.0; }", "task s 1 1 { c.0 = 1; }", "task s 1 1 { lock c { } }", "handler s 1 7 7 { lock d { } }", "task s 1 1 { x = c[0]; }",
		"task s 1 1 { lock b { lock a { } } }", "task s 1 1 { lock b { lock b { } } }", "handler s 0 7 7 { a[0] = 1; }", "task s 1 1 { x = b[0]; }",
		"task s 1 1 { a = 1; }", "task s 1 1 { lock b { b[s] = 1; } }",
	} {
		p, err, _ := reader.Parse(head + more)
		if err != api.OK {
			t.Fatal(err, more)
		}
		err, _ = rule.Check(p)
		found[err] = true
		tellsNothing(t, p)
	}
	for _, err := range []api.Errno{api.ErrTwice, api.ErrHart, api.ErrLine, api.ErrBelow, api.ErrUnknown, api.ErrOrder, api.ErrFree} {
		if !found[err] || found[api.OK] {
			t.Error(err, "is not among them, or OK is")
		}
	}
}

// V1 to V3: nothing is told of what is not right, whatever it is.
func TestNothingOfWrong(t *testing.T) {
	tellsNothing(t, api.Program{})
	tellsNothing(t, api.Program{Tasks: []api.Task{{}, {Handler: true}}, Resources: make([]api.Resource, 3)})
	for _, change := range []func(*api.Program){
		func(p *api.Program) { p.Harts = 0 },
		func(p *api.Program) { p.Harts = 5 },
		func(p *api.Program) { p.Harts = -1 },
		func(p *api.Program) { p.Harts = math.MaxInt },
		func(p *api.Program) { p.Devices[0].Kind = 0 },
		func(p *api.Program) { p.Resources[1].Words = 9 },
		func(p *api.Program) { p.Resources[1].Name = "lock" },
		func(p *api.Program) { p.Resources = append(p.Resources, make([]api.Resource, 9)...) },
		func(p *api.Program) {
			for i := range 9 {
				p.Resources = append(p.Resources, api.Resource{Name: "r" + strconv.Itoa(i), Words: 1})
				lock := api.Stmt{Kind: api.StmtLock, Name: "r" + strconv.Itoa(i)}
				p.Tasks[2].Body = append(p.Tasks[2].Body, lock)
			}
		},
		func(p *api.Program) { p.Tasks = append(p.Tasks, make([]api.Task, 1<<16)...) },
		func(p *api.Program) { p.Tasks[2].Priority = 8 },
		func(p *api.Program) { p.Tasks[2].Priority = math.MaxInt },
		func(p *api.Program) { p.Tasks[2].Priority = math.MinInt },
		func(p *api.Program) { p.Tasks[2].Hart = -1 },
		func(p *api.Program) { p.Tasks[2].Hart = 4 },
		func(p *api.Program) { p.Tasks[2].Line = -1 },
		func(p *api.Program) { p.Tasks[4].Name = "" },
		func(p *api.Program) { p.Tasks[4].Body = []api.Stmt{{}} },
		func(p *api.Program) { p.Tasks[4].Body[0].Else = []api.Stmt{{Kind: api.StmtLock, Name: "a"}} },
		func(p *api.Program) { p.Tasks[4].Body[0].Name = "" },
		func(p *api.Program) {
			for range 31 {
				p.Tasks[2].Body = []api.Stmt{{Kind: api.StmtRepeat, Then: p.Tasks[2].Body}, {Kind: api.StmtLock, Name: "a"}}
			}
		},
	} {
		p := program(t, someText)
		change(&p)
		tellsNothing(t, p)
	}
}

// R1: what is nested as deep as it may be handed in ends, and nothing is told of it.
func TestTooDeep(t *testing.T) {
	inner := []api.Stmt{{Kind: api.StmtHalt}}
	for range 1<<16 - 1 {
		inner = []api.Stmt{{Kind: api.StmtLock, Name: "r", Then: inner}}
	}
	tellsNothing(t, api.Program{Harts: 1, Resources: []api.Resource{{Name: "r", Words: 1}}, Tasks: []api.Task{{Name: "t", Priority: 1, Body: inner}}})
}

// tellsNothing holds that nothing is told of a program that may not be.
func tellsNothing(t *testing.T, p api.Program) {
	t.Helper()
	if told(p) {
		t.Fatalf("may be:\n%s", short(p))
	}
	if got := ceiling.Ceilings(p); len(got) != 0 {
		t.Fatalf("ceilings %v", got)
	}
	for _, n := range []int{0, 1, 2, 3, 4, 5, -1} {
		if got := ceiling.Locks(p, n); len(got) != 0 {
			t.Errorf("locks of %d: %v", n, got)
		}
		if got := ceiling.Level(p, n, 7, []int{0, 1}); got != 0 {
			t.Errorf("level of %d: %d", n, got)
		}
		if got := ceiling.Level(p, n, -7, nil); got != 0 {
			t.Errorf("level of %d, below 0: %d", n, got)
		}
		if got := ceiling.Starts(p, n, 0); len(got) != 0 {
			t.Errorf("starts of %d: %v", n, got)
		}
		if got := ceiling.Chain(p, n); got != 0 {
			t.Errorf("chain of %d: %d", n, got)
		}
	}
}

// V1 to V3: as much as may be: harts, resources, tasks, handlers, statements in one another, and many of them.
func TestMost(t *testing.T) {
	p := api.Program{Harts: api.MaxHarts}
	for i := range api.MaxResources {
		p.Resources = append(p.Resources, api.Resource{Name: "r" + strconv.Itoa(i), Words: api.MaxRes})
	}
	lock := func(i int, in ...api.Stmt) api.Stmt {
		return api.Stmt{Kind: api.StmtLock, Name: "r" + strconv.Itoa(i), Then: in}
	}
	for i := range api.MaxHarts {
		deep := lock(7 - i)
		for range api.MaxDeep - 1 {
			deep = api.Stmt{Kind: api.StmtIf, Args: []api.Expr{{Kind: api.ExprNum}}, Else: []api.Stmt{deep}}
		}
		body := append(slices.Repeat([]api.Stmt{lock(3, lock(4))}, 20000), deep)
		p.Tasks = append(p.Tasks, api.Task{Name: "t" + strconv.Itoa(i), Hart: i, Priority: 1 + i, Body: body})
	}
	for i := range api.MaxLines {
		p.Tasks = append(p.Tasks, api.Task{Name: "h" + strconv.Itoa(i), Hart: i % 4, Priority: 5 + i%3, Line: i, Handler: true, Body: []api.Stmt{lock(i)}})
	}
	want := [][]int{{5, 5, 5, 5, 6, 6, 6, 6}, {0, 6, 6, 6, 6, 7, 7, 7}, {0, 0, 7, 7, 7, 7, 7, 7}, {0, 0, 0, 5, 5, 5, 5, 6}}
	if got := ceiling.Ceilings(p); !slices.EqualFunc(got, want, same) {
		t.Error(got)
	}
	for i, want := range [][]int{{3, 4, 7}, {3, 4, 6}, {3, 4, 5}, {3, 4}, {0}, {1}, {2}, {3}, {4}, {5}, {6}, {7}, {}} {
		if got := ceiling.Locks(p, i); !same(got, want) {
			t.Errorf("%d: %v", i, got)
		}
	}
	for hart, want := range [][]int{{8, 4}, {9, 5}, {6, 10}, {11, 7}, {}} {
		if got := ceiling.Starts(p, hart, 4); !same(got, want) {
			t.Errorf("%d: %v", hart, got)
		}
		if got := ceiling.Chain(p, hart); got != min(3, len(want)*3) {
			t.Errorf("%d: %d", hart, got)
		}
	}
}

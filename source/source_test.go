package source_test

import (
	"math"
	"slices"
	"strconv"
	"strings"
	"testing"

	"headstock/api"
	"headstock/source"
)

func num(n int) api.Expr         { return api.Expr{Kind: api.ExprNum, N: n} }
func local(name string) api.Expr { return api.Expr{Kind: api.ExprVar, Name: name} }
func one(op int, e ...api.Expr) api.Expr {
	return api.Expr{Kind: api.ExprOne, Op: op, Args: e}
}
func two(op int, e ...api.Expr) api.Expr {
	return api.Expr{Kind: api.ExprTwo, Op: op, Args: e}
}
func at(name string, e ...api.Expr) api.Expr {
	return api.Expr{Kind: api.ExprAt, Name: name, Args: e}
}

// farNumbers are places that there are not, or numbers beyond 32 bits.
var farNumbers = []int{-1, -2, 9, 100, 1 << 31, 1 << 32, 1<<32 + 1, 1 << 33, -1 << 31, -1 << 32, math.MaxInt, math.MinInt}

// someText has all that a program may have.
const someText = `harts 3
device u uart device d timer device g gpio
resource a 3 resource b 8 resource c 1
task t 0 1 { x = 1; y = u.0; lock a { a[1] = x; lock b { b[2] = y; u.0 = b[2]; } z = a[1]; } halt; }
handler h 0 3 5 { lock b { b[0] = b[0] + 1; } p = g.1; }
handler i 0 5 2 { q = 2; }
task s 2 4 { repeat 3 { lock a { a[0] = a[0] + 1; } } if (x) { d.1 = 1; } else { d.2 = x; } }
handler j 1 7 7 { lock c { c[0] = 9; } }
handler k 0 5 1 { lock c { r = c[0]; } }`

// The chapter's example.
func TestExample(t *testing.T) {
	x := played(t, "harts 1 device d uart task t 0 1 { x = d.1; d.0 = x + 1; }")
	x.all(step(0), step(0))
	if want := []api.Access{{Reg: 1, N: 2}, {Reg: 0, Write: true, N: 3}}; !slices.Equal(x.s.Trace, want) || len(x.s.Works[0]) != 1 {
		t.Fatalf("%+v", x.s)
	}
	x.all(step(0))
	x.fails(step(0), api.ErrNone)
	if len(x.s.Works[0]) != 0 || len(x.s.Trace) != 2 {
		t.Fatalf("%+v", x.s)
	}
}

// O1: what Start tells, written out.
func TestStart(t *testing.T) {
	p := program(t, "harts 3 device d timer device e uart resource r 2 resource q 1 handler h 2 5 3 { z = 1; } task t 2 4 { x = d.1; lock q { q[0] = y; } y = x; } task s 0 1 { }")
	s, err := source.Start(p)
	body := p.Tasks[1].Body
	want := api.Source{
		Program: p,
		Words:   [][]int{{0, 0}, {0}},
		Owners:  []int{-1, -1},
		Devices: []api.State{{Kind: api.DeviceTimer}, {Kind: api.DeviceUart}},
		Raised:  make([]bool, 8),
		Works: [][]api.Work{
			{{Task: 2}},
			{},
			{{Task: 1, Locals: []int{0, 0}, Left: []api.Deed{{Stmt: body[2], Leave: -1}, {Stmt: body[1], Leave: -1}, {Stmt: body[0], Leave: -1}}}},
		},
	}
	if err != api.OK || !isSame(s, want) || !source.Same(s, want) {
		t.Errorf("%d, %+v, not %+v", err, s, want)
	}
}

// O1: as little and as much as a program may have.
func TestStartEdges(t *testing.T) {
	for harts := 1; harts <= api.MaxHarts; harts++ {
		x := played(t, "harts "+strconv.Itoa(harts))
		if len(x.s.Works) != harts || len(x.s.Raised) != 8 || len(x.s.Words)+len(x.s.Owners)+len(x.s.Devices)+len(x.s.Trace) != 0 {
			t.Errorf("%d harts: %+v", harts, x.s)
		}
		x.asks()
		for hart := range harts {
			x.fails(step(hart), api.ErrNone)
			x.fails(take(hart), api.ErrNone)
		}
	}
	var b strings.Builder
	b.WriteString("harts 4 ")
	for i := range 8 {
		b.WriteString("device d" + strconv.Itoa(i) + " " + []string{"uart", "timer", "gpio"}[i%3] + " ")
	}
	for i := range 8 {
		b.WriteString("resource r" + strconv.Itoa(i) + " " + strconv.Itoa(i+1) + " ")
	}
	for i := range 4 {
		b.WriteString("task t" + strconv.Itoa(i) + " " + strconv.Itoa(3-i) + " 1 { x = d" + strconv.Itoa(i) + ".1; } ")
	}
	for i := range 8 {
		b.WriteString("handler h" + strconv.Itoa(i) + " " + strconv.Itoa(i%4) + " 7 " + strconv.Itoa(7-i) + " { lock r" + strconv.Itoa(i) + " { r" + strconv.Itoa(i) + "[" + strconv.Itoa(i) + "] = 1; } } ")
	}
	x := played(t, b.String())
	for i := range 8 {
		if len(x.s.Words[i]) != i+1 || x.s.Owners[i] != -1 || x.s.Devices[i].Kind != i%3+1 {
			t.Errorf("%d: %+v", i, x.s)
		}
		x.all(raise(i))
	}
	for hart := range 4 {
		x.asks()
		x.all(take(hart))
		x.ends(hart)
		x.all(take(hart))
		x.ends(hart)
	}
	for i, l := range x.s.Words {
		if l[i] != 1 {
			t.Errorf("%d: %v", i, l)
		}
	}
}

// O1: chapter 8's errors, each; nothing is told beside them.
func TestStartErrors(t *testing.T) {
	for text, want := range map[string]api.Errno{
		"harts 1 device d uart task d 0 1 { }":                               api.ErrTwice,
		"harts 1 task t 0 1 { t = 1; }":                                      api.ErrTwice,
		"harts 1 task t 1 1 { }":                                             api.ErrHart,
		"harts 1 task t 0 1 { } task s 0 1 { }":                              api.ErrHart,
		"harts 1 handler t 0 1 2 { } handler s 0 1 2 { }":                    api.ErrLine,
		"harts 1 task t 0 3 { } handler s 0 3 2 { }":                         api.ErrBelow,
		"harts 1 task t 0 1 { x = d.0; }":                                    api.ErrUnknown,
		"harts 1 resource a 1 resource b 1 task t 0 1 { lock b { lock a{}}}": api.ErrOrder,
		"harts 1 resource a 1 task t 0 1 { lock a { } x = a[0]; }":           api.ErrFree,
	} {
		if s, err := source.Start(program(t, text)); err != want || !isSame(s, api.Source{}) {
			t.Errorf("%s: %d, %+v", text, err, s)
		}
	}
	for name, change := range map[string]func(*api.Program){
		"no harts":           func(p *api.Program) { p.Harts = 0 },
		"5 harts":            func(p *api.Program) { p.Harts = 5 },
		"many harts":         func(p *api.Program) { p.Harts = math.MaxInt },
		"below 0":            func(p *api.Program) { p.Harts = -1 },
		"a kind":             func(p *api.Program) { p.Devices[0].Kind = 4 },
		"no words":           func(p *api.Program) { p.Resources[0].Words = 0 },
		"-1 words":           func(p *api.Program) { p.Resources[0].Words = -1 },
		"many words":         func(p *api.Program) { p.Resources[0].Words = math.MaxInt },
		"a line":             func(p *api.Program) { p.Tasks[1].Line = 8 },
		"a line below 0":     func(p *api.Program) { p.Tasks[1].Line = -1 },
		"a hart":             func(p *api.Program) { p.Tasks[0].Hart = -1 },
		"a priority":         func(p *api.Program) { p.Tasks[0].Priority = 0 },
		"no statement":       func(p *api.Program) { p.Tasks[0].Body = []api.Stmt{{}} },
		"a value's missing":  func(p *api.Program) { p.Tasks[0].Body = []api.Stmt{{Kind: api.StmtSet, Name: "x"}} },
		"too often":          func(p *api.Program) { p.Tasks[0].Body = []api.Stmt{{Kind: api.StmtRepeat, N: 21}} },
		"a register":         func(p *api.Program) { p.Tasks[0].Body = []api.Stmt{{Kind: api.StmtGet, Name: "x", From: "u", N: 4}} },
		"an operator of one": func(p *api.Program) { p.Tasks[0].Body[0].Args[0] = one(api.OpAdd, num(1)) },
	} {
		p := program(t, someText)
		change(&p)
		if s, err := source.Start(p); err != api.ErrArg || !isSame(s, api.Source{}) {
			t.Errorf("%s: %d, %+v", name, err, s)
		}
	}
	if s, err := source.Start(api.Program{}); err != api.ErrArg || !isSame(s, api.Source{}) {
		t.Errorf("nothing: %d, %+v", err, s)
	}
}

// valued is a source behind some deeds, whose locals and words are known: x -5, y 7, z 2^31 - 1; of a 11, 12, 13, of b 2 and 100, else 0.
func valued(t *testing.T) *play {
	t.Helper()
	x := played(t, `harts 2 device d uart resource a 3 resource b 8
		handler h 0 6 0 { y = 50; w = 60; }
		task t 0 1 { x = -5; y = 7; z = 2147483647; lock a { a[0] = 11; a[1] = 12; a[2] = 13; lock b { b[0] = 2; b[7] = 100; u = a[b[0]]; } } }
		task s 1 1 { x = 1000; }`)
	x.all(step(1), raise(0))
	x.all(steps(0, 10)...)
	return x
}

// O2: values, by numbers that are known.
func TestValue(t *testing.T) {
	x := valued(t)
	w := x.s.Works[0][0]
	for _, c := range []struct {
		name string
		e    api.Expr
		n    int
	}{
		{"0", num(0), 0}, {"7", num(7), 7}, {"2^31 - 1", num(1<<31 - 1), 1<<31 - 1}, {"2^31", num(1 << 31), -1 << 31}, {"2^32 - 1", num(1<<32 - 1), -1}, {"2^32", num(1 << 32), 0}, {"2^32 and 5", num(1<<32 + 5), 5}, {"-3", num(-3), -3}, {"-2^31 - 1", num(-1<<31 - 1), 1<<31 - 1}, {"the most", num(math.MaxInt), -1}, {"the least", num(math.MinInt), 0},
		{"x", local("x"), -5}, {"y", local("y"), 7}, {"z", local("z"), 1<<31 - 1}, {"u", local("u"), 0},
		{"-x", one(api.OpNeg, local("x")), 5}, {"!x", one(api.OpNot, local("x")), 0}, {"!0", one(api.OpNot, num(0)), 1}, {"~x", one(api.OpInv, local("x")), 4}, {"-(2^31)", one(api.OpNeg, num(1<<31)), -1 << 31},
		{"x + y", two(api.OpAdd, local("x"), local("y")), 2}, {"x - y", two(api.OpSub, local("x"), local("y")), -12}, {"y - x", two(api.OpSub, local("y"), local("x")), 12}, {"x * y", two(api.OpMul, local("x"), local("y")), -35}, {"y / x", two(api.OpDiv, local("y"), local("x")), -1}, {"y % x", two(api.OpRem, local("y"), local("x")), 2}, {"y / 0", two(api.OpDiv, local("y"), num(0)), -1}, {"y % 0", two(api.OpRem, local("y"), num(0)), 7},
		{"x & y", two(api.OpAnd, local("x"), local("y")), 3}, {"x | y", two(api.OpOr, local("x"), local("y")), -1}, {"x ^ y", two(api.OpXor, local("x"), local("y")), -4}, {"y << 3", two(api.OpShl, local("y"), num(3)), 56}, {"x >> 1", two(api.OpShr, local("x"), num(1)), -3}, {"y << 33", two(api.OpShl, local("y"), num(33)), 14},
		{"x < y", two(api.OpLt, local("x"), local("y")), 1}, {"x <. y", two(api.OpLess, local("x"), local("y")), 0}, {"x == x", two(api.OpEq, local("x"), local("x")), 1}, {"x != x", two(api.OpNe, local("x"), local("x")), 0}, {"z + 1", two(api.OpAdd, local("z"), num(1)), -1 << 31},
		{"a[0]", at("a", num(0)), 11}, {"a[2]", at("a", num(2)), 13}, {"b[0]", at("b", num(0)), 2}, {"b[7]", at("b", num(7)), 100}, {"b[6]", at("b", num(6)), 0}, {"b[y]", at("b", local("y")), 100}, {"a[x + 6]", at("a", two(api.OpAdd, local("x"), num(6))), 12}, {"a[b[0]]", at("a", at("b", num(0))), 13}, {"a[2^32 and 1]", at("a", num(1<<32+1)), 12},
		{"a[0] * a[1] + b[7]", two(api.OpAdd, two(api.OpMul, at("a", num(0)), at("a", num(1))), at("b", num(7))), 232},
	} {
		if n, ok := source.Value(x.s, w, c.e); n != c.n || !ok {
			t.Errorf("%s: %d, %v, not %d", c.name, n, ok, c.n)
		}
	}
}

// O2: what has no value: by itself, and in another one at each place.
func TestNoValue(t *testing.T) {
	x := valued(t)
	w := x.s.Works[0][0]
	all := map[string]api.Expr{
		"a[3]": at("a", num(3)), "a[-1]": at("a", num(-1)), "a[8]": at("a", num(8)), "b[8]": at("b", num(8)), "a[x]": at("a", local("x")), "b[z]": at("b", local("z")), "a[2^31]": at("a", num(1<<31)), "a[a[0]]": at("a", at("a", num(0))),
		"no resource": at("c", num(0)), "a device's word": at("d", num(0)), "a task's": at("t", num(0)), "a local's": at("x", num(0)), "of no name": at("", num(0)),
		"no local": local("v"), "another task's": local("w"), "a resource": local("a"), "a device": local("d"), "a task": local("t"), "no name": local(""),
		"no kind": {}, "kind 6": {Kind: 6, N: 1}, "kind -1": {Kind: -1, N: 1}, "a far kind": {Kind: 1<<32 + 1, N: 1},
		"an operator of two": one(api.OpSub, num(1)), "an operator of one": two(api.OpNeg, num(1), num(2)), "no operator": two(0, num(1), num(2)), "none of one": one(0, num(1)), "operator 18": two(18, num(1), num(2)), "operator -1": one(-1, num(1)),
		"one without": one(api.OpNeg), "two without": two(api.OpAdd), "two with one": two(api.OpAdd, num(1)), "at without": at("a"),
	}
	for _, n := range farNumbers {
		if n != 1<<32 && n != 1<<32+1 && n != 1<<33 && n != -1<<32 && n != math.MinInt {
			all["a["+strconv.Itoa(n)+"]"] = at("a", num(n))
		}
	}
	for name, e := range all {
		for _, outer := range []api.Expr{e, one(api.OpNot, e), two(api.OpMul, num(0), e), two(api.OpMul, e, num(0)), two(api.OpOr, e, e), at("a", e), two(api.OpAdd, at("a", one(api.OpNeg, e)), at("a", num(0)))} {
			if n, ok := source.Value(x.s, w, outer); n != 0 || ok {
				t.Errorf("%s in %+v: %d, %v", name, outer, n, ok)
			}
		}
	}
}

// O2: locals are the work's that is handed in, by its task's names.
func TestValueOfWorks(t *testing.T) {
	x := valued(t)
	below, other := x.s.Works[0][0], x.s.Works[1][0]
	x.all(steps(0, 3)...)
	x.all(take(0), step(0))
	for name, c := range map[string]struct {
		w    api.Work
		n    int
		is   bool
		name string
	}{
		"the one below": {below, 7, true, "y"}, "the last one": {x.s.Works[0][len(x.s.Works[0])-1], 50, true, "y"}, "what it has not set yet": {x.s.Works[0][len(x.s.Works[0])-1], 0, true, "w"}, "below w": {below, 0, false, "w"}, "another hart's": {other, 1000, true, "x"}, "another hart's y": {other, 0, false, "y"},
		"numbers of its own": {api.Work{Task: 1, Locals: []int{1, 2, 3, 4}}, 4, true, "u"},
	} {
		if n, ok := source.Value(x.s, c.w, local(c.name)); n != c.n || ok != c.is {
			t.Errorf("%s: %d, %v, not %d, %v", name, n, ok, c.n, c.is)
		}
	}
}

// O2: as deep as an expression may be handed in.
func TestDeepValue(t *testing.T) {
	x := valued(t)
	e, missing := local("x"), at("a", num(9))
	for range 1<<16 - 3 {
		e, missing = one(api.OpNeg, e), one(api.OpNeg, missing)
	}
	if n, ok := source.Value(x.s, x.s.Works[0][0], e); n != 5 || !ok {
		t.Errorf("%d, %v", n, ok)
	}
	if n, ok := source.Value(x.s, x.s.Works[0][0], missing); n != 0 || ok {
		t.Errorf("%d, %v", n, ok)
	}
}

// O3: levels of works and of what is held, one step after the other.
func TestLevel(t *testing.T) {
	x := played(t, `harts 3 resource a 1 resource b 1 resource c 1
		task t 0 2 { lock b { lock c { } } } handler h 0 4 0 { lock a { } } handler i 0 6 1 { lock c { } } handler j 0 3 2 { }
		task s 1 1 { lock a { } } handler k 1 7 3 { lock c { } }`)
	level := func(want ...int) {
		t.Helper()
		x.asks()
		for hart, n := range want {
			if got := source.Level(x.s, hart); got != n {
				t.Fatalf("hart %d: %d, not %d, of %s", hart, got, n, state(x.s))
			}
		}
	}
	level(2, 1, 0)
	// h locks a, which is ahead of b.
	x.all(step(0))
	level(4, 1, 0)
	x.all(step(0))
	level(6, 1, 0)
	x.all(step(0))
	level(4, 1, 0)
	x.all(step(0))
	level(2, 1, 0)
	x.all(step(1))
	level(2, 1, 0)
	x.all(raise(1), raise(2), raise(3), take(0), take(1))
	level(6, 7, 0)
	x.all(step(1))
	level(6, 7, 0)
	x.fails(step(0), api.ErrBusy)
	x.all(step(1), step(0))
	level(6, 7, 0)
	x.all(step(0), step(0))
	level(2, 7, 0)
	x.all(take(0))
	level(3, 7, 0)
	x.all(step(0), step(0))
	level(0, 7, 0)
	for _, hart := range append([]int{3, 4}, farNumbers...) {
		if got := source.Level(x.s, hart); got != 0 {
			t.Errorf("hart %d: %d", hart, got)
		}
	}
	if got := source.Level(api.Source{}, 0); got != 0 {
		t.Errorf("of nothing: %d", got)
	}
}

// O3: of what is raised the greatest above the level; of one priority the least line, wherever its handler stands.
func TestFirst(t *testing.T) {
	x := played(t, `harts 2 handler g 0 5 6 { } handler h 0 5 2 { } task t 0 3 { } handler i 0 4 0 { } handler j 1 7 1 { } handler k 0 7 7 { } handler l 0 5 4 { }`)
	first := func(lines []int, want int) {
		t.Helper()
		y := &play{t, x.s, x.w.copied()}
		for _, line := range lines {
			y.all(raise(line))
		}
		y.asks()
		if got := source.First(y.s, 0); got != want {
			t.Errorf("%v: %d, not %d", lines, got, want)
		}
	}
	first(nil, -1)
	for line, want := range []int{0, -1, 2, -1, 4, -1, 6, 7} {
		first([]int{line}, want)
	}
	first([]int{6, 4}, 4)
	first([]int{6, 2}, 2)
	first([]int{4, 2, 6}, 2)
	first([]int{0, 6}, 6)
	first([]int{0, 1, 3, 5}, 0)
	first([]int{0, 1, 2, 3, 4, 5, 6, 7}, 7)
	for line := range 8 {
		x.all(raise(line))
	}
	if got := source.First(x.s, 1); got != 1 {
		t.Errorf("hart 1: %d", got)
	}
	for _, hart := range append([]int{2, 3, 4}, farNumbers...) {
		if got := source.First(x.s, hart); got != -1 {
			t.Errorf("hart %d: %d", hart, got)
		}
	}
	if got := source.First(api.Source{}, 0); got != -1 {
		t.Errorf("of nothing: %d", got)
	}
	// What has begun keeps out all that is not above it; what ends lets it in.
	for _, want := range []int{7, 2, 4, 6, 0} {
		if got := source.First(x.s, 0); got != want {
			t.Fatalf("%d, not %d", got, want)
		}
		x.all(take(0))
		if got := source.First(x.s, 0); got != -1 {
			t.Fatalf("%d, at the level of %d", got, want)
		}
		x.fails(take(0), api.ErrNone)
		x.all(step(0))
	}
	x.fails(take(0), api.ErrNone)
	x.all(step(0), raise(0), take(0), step(0))
}

// O3: each level against each priority of a handler, by works and by what is held.
func TestLevelAgainstPriority(t *testing.T) {
	for low := 1; low <= 6; low++ {
		for ceiling := low + 1; ceiling <= 7; ceiling++ {
			for priority := low + 1; priority <= 7; priority++ {
				x := played(t, "harts 1 resource r 1 task t 0 "+strconv.Itoa(low)+" { lock r { } } handler h 0 "+strconv.Itoa(ceiling)+" 0 { lock r { } } handler i 0 "+strconv.Itoa(priority)+" 1 { }")
				x.all(raise(1))
				if got := source.First(x.s, 0); got != 1 {
					t.Errorf("%d, %d, %d: %d", low, ceiling, priority, got)
				}
				x.all(step(0))
				want := -1
				if priority > ceiling {
					want = 1
				}
				if got := source.First(x.s, 0); got != want || source.Level(x.s, 0) != ceiling {
					t.Errorf("%d, %d, %d, held: %d, not %d", low, ceiling, priority, got, want)
				}
				x.asks()
			}
		}
	}
}

// O4: kinds that there are not, and harts, lines and devices that there are not; what is not named does not matter.
func TestNamed(t *testing.T) {
	x := played(t, someText)
	for _, kind := range append([]int{0, 2, 6, 7, 1<<32 + 3}, farNumbers...) {
		x.fails(api.Choice{Kind: kind}, api.ErrArg)
		x.fails(api.Choice{Kind: kind, Hart: 1, Which: 1, N: 1}, api.ErrArg)
		if s, err := source.Do(api.Source{}, api.Choice{Kind: kind}); err != api.ErrArg || !isSame(s, api.Source{}) {
			t.Errorf("of nothing: %d, %+v", err, s)
		}
	}
	for _, n := range append([]int{3, 4, 5, 6, 7, 8}, farNumbers...) {
		x.fails(step(n), api.ErrArg)
		x.fails(take(n), api.ErrArg)
		x.fails(input(n, 1), api.ErrArg)
		if n > 7 || n < 0 {
			x.fails(raise(n), api.ErrArg)
		}
		for _, c := range []api.Choice{step(n), take(n), raise(n), input(n, 1), step(0), take(0), raise(0), input(0, 1)} {
			if s, err := source.Do(api.Source{}, c); err != api.ErrArg || !isSame(s, api.Source{}) {
				t.Errorf("%+v of nothing: %d, %+v", c, err, s)
			}
		}
	}
	for i, n := range append([]int{0, 1, 2, 3, 8}, farNumbers...) {
		x.all(api.Choice{Kind: api.ChoiceRaise, Which: i % 8, Hart: n, N: n})
		x.all(api.Choice{Kind: api.ChoiceInput, Which: i % 3, Hart: n, N: n})
		y := &play{t, x.s, x.w.copied()}
		y.all(api.Choice{Kind: api.ChoiceStep, Hart: 0, Which: n, N: n}, api.Choice{Kind: api.ChoiceStep, Hart: 2, Which: n, N: n})
		y.all(raise(7), api.Choice{Kind: api.ChoiceTake, Hart: 1, Which: n, N: n})
	}
}

// O4: a hart without works does no step, and takes what there is for it.
func TestNoWorks(t *testing.T) {
	x := played(t, "harts 2 handler h 1 1 4 { x = 1; } task t 0 1 { }")
	x.fails(step(1), api.ErrNone)
	x.fails(take(1), api.ErrNone)
	x.all(raise(4))
	x.fails(take(0), api.ErrNone)
	x.all(take(1))
	if !slices.Equal(x.s.Works[1][0].Locals, []int{0}) || x.s.Works[1][0].Task != 0 || x.s.Raised[4] {
		t.Fatalf("%+v", x.s)
	}
	x.all(step(1), step(1), step(0))
	x.fails(step(0), api.ErrNone)
	x.fails(step(1), api.ErrNone)
}

// O4: a line that is raised, once or twice, is taken once; one that nobody has stays raised.
func TestRaise(t *testing.T) {
	x := played(t, "harts 1 device d gpio handler h 0 2 3 { } task t 0 1 { d.2 = 255; }")
	x.all(raise(3), raise(3), raise(7), raise(0))
	if !slices.Equal(x.s.Raised, []bool{0: true, 3: true, 7: true}) {
		t.Fatalf("%v", x.s.Raised)
	}
	x.all(take(0))
	if !slices.Equal(x.s.Raised, []bool{0: true, 7: true}) || len(x.s.Works[0]) != 2 {
		t.Fatalf("%+v", x.s)
	}
	x.fails(take(0), api.ErrNone)
	x.all(raise(3))
	x.fails(take(0), api.ErrNone)
	x.all(step(0), take(0), step(0), step(0))
	// A device that raises its interrupt raises no line.
	x.all(input(0, 1))
	if !x.s.Devices[0].Raised || !slices.Equal(x.s.Raised, []bool{0: true, 7: true}) {
		t.Fatalf("%+v", x.s)
	}
}

// O4: what is handed to a device goes to that one alone.
func TestInput(t *testing.T) {
	x := played(t, "harts 1 device d uart device e uart device f gpio device g timer")
	for _, n := range append([]int{0, 65, 256 + 66}, farNumbers...) {
		for which := range 4 {
			x.all(input(which, n))
		}
	}
	x = played(t, "harts 1 device d uart device e uart task t 0 1 { x = e.0; y = d.0; z = e.0; }")
	x.all(input(1, 256+65), input(1, 66))
	x.ends(0)
	if want := []api.Access{{Device: 1, N: 65}, {N: -1}, {Device: 1, N: 66}}; !slices.Equal(x.s.Trace, want) {
		t.Errorf("%+v", x.s.Trace)
	}
}

// O4: a handler's work begins behind all others, with its own locals, each time anew; those below wait.
func TestTake(t *testing.T) {
	x := played(t, "harts 2 device d uart task t 0 1 { x = 1; x = x + 10; d.0 = x; } handler h 0 3 0 { x = x + 5; d.0 = x; } handler i 0 5 1 { x = x + 7; d.0 = x; } task s 1 2 { }")
	x.all(step(0), raise(0), take(0), step(0), raise(1), take(0))
	if len(x.s.Works[0]) != 3 || x.s.Works[0][0].Task != 0 || x.s.Works[0][1].Task != 1 || x.s.Works[0][2].Task != 2 || x.s.Works[0][2].Locals[0] != 0 || x.s.Works[0][1].Locals[0] != 5 || x.s.Works[0][0].Locals[0] != 1 {
		t.Fatalf("%+v", x.s.Works)
	}
	x.all(steps(0, 8)...)
	x.all(raise(0), raise(1), take(0))
	x.ends(0)
	x.all(take(0))
	x.ends(0)
	var told []int
	for _, a := range x.s.Trace {
		told = append(told, a.N)
	}
	if !slices.Equal(told, []int{7, 5, 11, 7, 5}) || len(x.s.Works[1]) != 1 {
		t.Errorf("%v", told)
	}
}

// O6: Run passes over what may not be, and counts the rest.
func TestRun(t *testing.T) {
	x := played(t, someText)
	for name, c := range map[string]struct {
		script []api.Choice
		done   int
	}{
		"nothing":         {nil, 0},
		"one":             {steps(0, 1), 1},
		"to its end":      {steps(0, 12), 12},
		"beyond its end":  {steps(0, 20), 12},
		"what may not be": {[]api.Choice{{}, {Kind: 2}, {Kind: 9}, step(1), step(3), take(0), take(1), raise(8), input(3, 1), step(-1)}, 0},
		"between":         {[]api.Choice{step(1), step(0), take(1), raise(7), take(1), step(1), {Kind: 2}, step(0)}, 5},
		"busy":            {append(steps(0, 3), steps(2, 9)...), 4},
		"busy, then free": {slices.Concat(steps(0, 3), steps(2, 9), steps(0, 9), steps(2, 30)), 28},
		"by turns":        {slices.Repeat([]api.Choice{step(0), step(2)}, 30), 28},
	} {
		y := &play{t, x.s, x.w.copied()}
		done := 0
		for _, choice := range c.script {
			if y.does(choice) == api.OK {
				done++
			}
		}
		if got, n := source.Run(x.s, c.script); n != done || n != c.done || !isSame(got, y.s) {
			t.Errorf("%s: %d, not %d (%d): %s, not %s", name, n, c.done, done, state(got), state(y.s))
		}
	}
	if got, n := source.Run(api.Source{}, []api.Choice{step(0), raise(0), take(0), input(0, 0)}); n != 0 || !isSame(got, api.Source{}) {
		t.Errorf("of nothing: %d, %+v", n, got)
	}
}

// differs holds that Same tells, in both orders, whether all of both is the same.
func differs(t *testing.T, name string, a, b api.Source, want bool) {
	t.Helper()
	if source.Same(a, b) != want || source.Same(b, a) != want {
		t.Errorf("%s: %v, not %v", name, !want, want)
	}
}

// deeply is the same in other memory, trees too.
func deeply(s api.Source) api.Source {
	out := copyOf(s)
	for i := range out.Program.Tasks {
		out.Program.Tasks[i].Body = stmts(out.Program.Tasks[i].Body)
	}
	for _, l := range out.Works {
		for _, w := range l {
			for i := range w.Left {
				w.Left[i].Stmt = stmts([]api.Stmt{w.Left[i].Stmt})[0]
			}
		}
	}
	return out
}

func stmts(l []api.Stmt) []api.Stmt {
	l = slices.Clone(l)
	for i := range l {
		l[i].Args, l[i].Then, l[i].Else = exprs(l[i].Args), stmts(l[i].Then), stmts(l[i].Else)
	}
	return l
}

func exprs(l []api.Expr) []api.Expr {
	l = slices.Clone(l)
	for i := range l {
		l[i].Args = exprs(l[i].Args)
	}
	return l
}

// O6: one thing unlike, in each part.
func TestSame(t *testing.T) {
	x := played(t, someText)
	x.all(input(0, 65), raise(5), take(0), step(0), raise(2), step(0), step(0), step(0), take(0), step(2), step(2))
	s := x.s
	for name, change := range map[string]func(*api.Source){
		"harts":             func(s *api.Source) { s.Program.Harts++ },
		"a device's name":   func(s *api.Source) { s.Program.Devices[1].Name = "e" },
		"a device's kind":   func(s *api.Source) { s.Program.Devices[2].Kind = 1 },
		"a device less":     func(s *api.Source) { s.Program.Devices = s.Program.Devices[:2] },
		"a resource":        func(s *api.Source) { s.Program.Resources[1].Words = 7 },
		"a task's priority": func(s *api.Source) { s.Program.Tasks[3].Priority = 5 },
		"a statement":       func(s *api.Source) { s.Program.Tasks[0].Body[0].Name = "w" },
		"a part":            func(s *api.Source) { s.Program.Tasks[1].Body[0].Then[0].Args[1].Args[0].Name = "c" },
		"a word":            func(s *api.Source) { s.Words[1][7] = 1 },
		"words":             func(s *api.Source) { s.Words[0] = s.Words[0][:2] },
		"words of one less": func(s *api.Source) { s.Words = s.Words[:2] },
		"an owner":          func(s *api.Source) { s.Owners[2] = 0 },
		"an owner more":     func(s *api.Source) { s.Owners = append(s.Owners, -1) },
		"a register":        func(s *api.Source) { s.Devices[2].Regs[3] = 1 },
		"a queue":           func(s *api.Source) { s.Devices[0].Queue[0] = 66 },
		"what is sent":      func(s *api.Source) { s.Devices[0].Sent = 1 },
		"a device raises":   func(s *api.Source) { s.Devices[1].Raised = true },
		"a device more":     func(s *api.Source) { s.Devices = append(s.Devices, api.State{}) },
		"a line":            func(s *api.Source) { s.Raised[0] = true },
		"a line less":       func(s *api.Source) { s.Raised = s.Raised[:7] },
		"a hart less":       func(s *api.Source) { s.Works = s.Works[:2] },
		"a work less":       func(s *api.Source) { s.Works[0] = s.Works[0][:2] },
		"a work's task":     func(s *api.Source) { s.Works[0][0].Task = 1 },
		"a local":           func(s *api.Source) { s.Works[0][0].Locals[0] = 1 },
		"a local more":      func(s *api.Source) { s.Works[0][0].Locals = append(s.Works[0][0].Locals, 0) },
		"a deed less":       func(s *api.Source) { s.Works[0][0].Left = s.Works[0][0].Left[1:] },
		"a deed's name":     func(s *api.Source) { s.Works[0][0].Left[3].Stmt.Name = "w" },
		"a deed's N":        func(s *api.Source) { s.Works[2][0].Left[1].Stmt.N++ },
		"a deed's Then":     func(s *api.Source) { s.Works[2][0].Left[1].Stmt.Then[0].Then = nil },
		"a deed's Args":     func(s *api.Source) { s.Works[0][0].Left[3].Stmt.Args[0].N = 2 },
		"a deed's Leave":    func(s *api.Source) { s.Works[0][0].Left[0].Leave = 0 },
		"an access less":    func(s *api.Source) { s.Trace = s.Trace[1:] },
		"an access's hart":  func(s *api.Source) { s.Trace[0].Hart = 1 },
		"an access's N":     func(s *api.Source) { s.Trace[0].N = 1 },
		"an access's Write": func(s *api.Source) { s.Trace[0].Write = true },
	} {
		// Its trees are its own, so that s stays.
		other, before := deeply(s), text(s)
		differs(t, name+", as it was", s, other, true)
		change(&other)
		differs(t, name, s, other, false)
		if text(s) != before {
			t.Fatalf("%s: the test changed both", name)
		}
	}
	empty := deeply(s)
	empty.Program.Tasks[2].Body[0].Then, empty.Works[1] = nil, []api.Work{}
	differs(t, "lists without elements", empty, s, true)
	differs(t, "nothing", api.Source{}, api.Source{Words: [][]int{}, Works: [][]api.Work{}, Trace: []api.Access{}}, true)
	differs(t, "nothing and something", api.Source{}, s, false)
}

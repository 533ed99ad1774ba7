package rule_test

import (
	"slices"
	"strconv"
	"strings"
	"testing"

	"headstock/api"
	"headstock/rule"
)

// someText is a program with all that one may have.
const someText = `harts 3
device u uart
device clock timer
resource a 8
resource b 1
resource c 2
task main 0 2 {
	x = 1 + y;
	z = clock.3;
	u.0 = x;
	lock a {
		a[x] = a[z] + 1;
		lock b {
			lock c { c[b[a[0]]] = a[1]; }
			lock c { }
		}
		if (a[0]) { w = a[1]; } else { lock c { x = c[0] + a[0]; } }
	}
	lock c { repeat 3 { halt; c[1] = v; } }
	lock b { }
}
handler tick 2 3 7 { lock b { b[0] = b[0] + 1; } }
handler tock 0 3 0 { x = u.1; }
task idle 2 1 { x = -1; }
handler again 0 3 1 { }
handler last 1 1 2 { }
`

// U1: places by names, of all that has one.
func TestPlaces(t *testing.T) {
	p := program(t, someText)
	for _, name := range []string{"u", "clock", "a", "b", "c", "main", "tick", "x", "", "U", "clock ", "cloc", "clockk"} {
		if got := rule.Device(p, name); got != slices.Index([]string{"u", "clock"}, name) {
			t.Errorf("device %q: %d", name, got)
		}
		if got := rule.Resource(p, name); got != slices.Index([]string{"a", "b", "c"}, name) {
			t.Errorf("resource %q: %d", name, got)
		}
		if rule.Device(api.Program{}, name) != -1 || rule.Resource(api.Program{}, name) != -1 {
			t.Errorf("%q of nothing", name)
		}
	}
}

// U1: of several of one name the first one, whatever else is wrong with the program.
func TestPlacesOfTwins(t *testing.T) {
	names := []string{"x", "y", "lock", "", "x", "y", "9", "", "a b", "z"}
	var p api.Program
	for i, name := range names {
		p.Devices = append(p.Devices, api.Device{Name: name, Kind: i})
		p.Resources = append(p.Resources, api.Resource{Name: names[len(names)-1-i]})
	}
	slices.Reverse(names)
	for _, name := range append(names, "Z", "none") {
		resource := slices.Index(names, name)
		device := slices.IndexFunc(p.Devices, func(d api.Device) bool { return d.Name == name })
		if rule.Device(p, name) != device || rule.Resource(p, name) != resource {
			t.Errorf("%q: %d, %d, not %d, %d", name, rule.Device(p, name), rule.Resource(p, name), device, resource)
		}
	}
	var many api.Program
	for i := range 100000 {
		many.Devices = append(many.Devices, api.Device{Name: strconv.Itoa(i)})
		many.Resources = append(many.Resources, api.Resource{Name: strconv.Itoa(i + 1)})
	}
	if rule.Device(many, "99999") != 99999 || rule.Resource(many, "99999") != 99998 || rule.Resource(many, "0") != -1 {
		t.Error("many")
	}
}

// U1: the locals of a body, in the order in which they come first.
func TestLocals(t *testing.T) {
	for body, want := range map[string]string{
		"": "", "halt;": "", "x = 1;": "x", "x = y;": "x y", "x = x;": "x", "x = d.0;": "x", "x = d.0; x = 1;": "x",
		"d.0 = x;": "x", "d.0 = 7;": "", "r[x] = y;": "x y", "r[y] = x + y + z;": "y x z", "x = r[y];": "x y",
		"x = r[r[y] + z] * -w;": "x y z w", "x = a - (b + c) * d;": "x a b c d", "x = !~-y;": "x y",
		"lock r { x = 1; }": "x", "lock r { }": "", "repeat 3 { y = x; }": "y x", "repeat 0 { x = 1; }": "x",
		"if (x) { y = 1; }": "x y", "if (x) { y = 1; } else { z = y; } w = v;": "x y z w v", "if (1) { } else { z = 1; }": "z",
		"if (1) { if (c) { b = 1; } else { a = 1; } e = 1; } else { f = g; } h = a;": "c b a e f g h",
		"b = 1; a = 1; b = a; c = b;": "b a c",
		"lock d { lock r { x = d; repeat 2 { d = y; lock z { w = t.3; halt; } v = 1; } } }": "x d y w v",
		"halt; x = 1; halt; y = 2;":                                         "x y",
		"x = X; y = x1; _ = x; a2345678901234567890 = a234567890123456789;": "x X y x1 _ a2345678901234567890 a234567890123456789",
	} {
		x := program(t, "harts 1 task t 0 1 { "+body+" }").Tasks[0]
		if got := rule.Locals(x); !slices.Equal(got, strings.Fields(want)) {
			t.Errorf("%s: %q, not %q", body, got, want)
		}
		if got := localsOf(x); !slices.Equal(got, strings.Fields(want)) {
			t.Errorf("by the words %s: %q, not %q", body, got, want)
		}
		x.Name, x.Handler, x.Hart, x.Priority, x.Line = "x", true, 9, -1, 9
		if got := rule.Locals(x); !slices.Equal(got, strings.Fields(want)) {
			t.Errorf("of a handler %s: %q, not %q", body, got, want)
		}
	}
	if got := rule.Locals(api.Task{Name: "x"}); len(got) != 0 {
		t.Errorf("%q of nothing", got)
	}
}

// U1: the locals of what is no right task are those that its words say, too.
func TestLocalsOfWrong(t *testing.T) {
	local := func(name string, in ...api.Expr) api.Expr {
		return api.Expr{Kind: api.ExprVar, Name: name, Op: 99, Args: in}
	}
	set := func(name string, l ...api.Expr) api.Stmt {
		return api.Stmt{Kind: api.StmtSet, Name: name, Args: l}
	}
	x := api.Task{Body: []api.Stmt{
		{Kind: 99, Name: "no", From: "no", Args: []api.Expr{local("a", local("b"), local("c", local("a")), local("d"))}},
		{Kind: api.StmtGet, Name: "e", From: "no", Args: []api.Expr{local("f")}, Then: []api.Stmt{set("g")}},
		{Kind: api.StmtHalt, Name: "no", Then: []api.Stmt{set("h", local("i"), local("j"))}, Else: []api.Stmt{set("k")}},
		{Kind: api.StmtLock, Name: "no", Else: []api.Stmt{set("l")}, Args: []api.Expr{{Kind: -1, Name: "no", Args: []api.Expr{local("m")}}}},
		{Args: []api.Expr{{Kind: api.ExprNum, Name: "no", Args: []api.Expr{local("lock")}}, local("")}},
		{Kind: api.StmtPut, Name: "no"}, {Kind: api.StmtStore, Name: "no"}, {Kind: api.StmtIf, Name: "no"}, {Kind: api.StmtRepeat, Name: "no"},
		set(""), set("a b"),
	}}
	want := []string{"a", "b", "c", "d", "e", "f", "g", "h", "i", "j", "k", "m", "l", "lock", "", "a b"}
	if got := rule.Locals(x); !slices.Equal(got, want) {
		t.Errorf("%q", got)
	}
	if got := localsOf(x); !slices.Equal(got, want) {
		t.Errorf("by the words %q", got)
	}
}

// U1: what is as deep as may be has locals, and many names do not take long.
func TestLocalsOfMuch(t *testing.T) {
	const deep = 1 << 16
	for _, kind := range []int{api.StmtLock, api.StmtIf, 99} {
		inner := []api.Stmt{{Kind: api.StmtSet, Name: "x"}}
		for i := range deep - 1 {
			s := api.Stmt{Kind: kind, Name: "r", Then: inner, Else: nil}
			if i%2 == 1 {
				s.Then, s.Else = nil, inner
			}
			inner = []api.Stmt{s}
		}
		if got := rule.Locals(api.Task{Body: inner}); !slices.Equal(got, []string{"x"}) {
			t.Errorf("kind %d: %.100q", kind, got)
		}
	}
	// Many locks side by side, as deep as that: what holds there is long.
	inner := slices.Repeat([]api.Stmt{{Kind: api.StmtLock, Name: "r"}}, 100000)
	for range deep / 2 {
		inner = []api.Stmt{{Kind: api.StmtLock, Name: "r", Then: inner}}
	}
	if got := rule.Locals(api.Task{Body: inner}); len(got) != 0 {
		t.Errorf("%.100q", got)
	}
	e := api.Expr{Kind: api.ExprVar, Name: "y"}
	for range deep - 1 {
		e = api.Expr{Kind: api.ExprOne, Args: []api.Expr{e}}
	}
	var want []string
	body := []api.Stmt{{Kind: api.StmtIf, Args: []api.Expr{e}}}
	want = append(want, "y")
	for i := range 200000 {
		want = append(want, "x"+strconv.Itoa(i))
		body = append(body, api.Stmt{Kind: api.StmtGet, Name: want[i+1]}, api.Stmt{Kind: api.StmtGet, Name: want[i/2]})
	}
	if got := rule.Locals(api.Task{Body: body}); !slices.Equal(got, want) {
		t.Errorf("%d names", len(got))
	}
}

// U2: the chapter's example, the document's, and programs that may be.
func TestExamples(t *testing.T) {
	checksText(t, "harts 1 resource a 1 resource b 1 task t 0 1 { lock b { lock a { } } }", api.ErrOrder, 0, 1)
	checksText(t, "harts 1 resource a 1 resource b 1 task t 0 1 { lock a { lock b { } } }", api.OK, 0, 0)
	checksText(t, "harts 1 device d uart task t 0 1 { d.0 = 7; }", api.OK, 0, 0)
	checksText(t, "harts 2 device d uart resource r 1 task s 0 1 { repeat 5 { lock r { r[0] = r[0] + 1; d.0 = r[0]; } } } task t 1 1 { lock r { x = r[9]; } }", api.OK, 0, 0)
	checksText(t, "harts 1 resource r 8 task t 0 1 { lock r { } } handler h 0 5 3 { lock r { } }", api.OK, 0, 0)
	checksText(t, "harts 1", api.OK, 0, 0)
	checksText(t, someText, api.OK, 0, 0)
}

// U2: what is not right, whatever else it is.
func TestNotRight(t *testing.T) {
	checks(t, api.Program{}, api.ErrArg, 0, 0)
	for i, change := range []func(*api.Program){
		func(p *api.Program) { p.Harts = 0 },
		func(p *api.Program) { p.Harts = 5 },
		func(p *api.Program) { p.Devices[1].Kind = 4 },
		func(p *api.Program) { p.Devices = slices.Repeat(p.Devices, 5) },
		func(p *api.Program) { p.Resources[2].Words = 9 },
		func(p *api.Program) { p.Resources[0].Name = "lock" },
		func(p *api.Program) { p.Resources = slices.Repeat(p.Resources, 3) },
		func(p *api.Program) { p.Tasks = slices.Repeat(p.Tasks, 3) },
		func(p *api.Program) { p.Tasks[5].Name = "" },
		func(p *api.Program) { p.Tasks[3].Line = 1 },
		func(p *api.Program) { p.Tasks[1].Hart = 4 },
		func(p *api.Program) { p.Tasks[1].Hart = -1 },
		func(p *api.Program) { p.Tasks[1].Priority = 8 },
		func(p *api.Program) { p.Tasks[3].Priority = 0 },
		func(p *api.Program) { p.Tasks[1].Line = 8 },
		func(p *api.Program) { p.Tasks[4].Body = []api.Stmt{{}} },
		func(p *api.Program) { p.Tasks[4].Body = []api.Stmt{{Kind: 9}} },
		func(p *api.Program) { p.Tasks[4].Body = []api.Stmt{{Kind: api.StmtSet, Name: "main"}} },
		func(p *api.Program) { p.Tasks[0].Body[3].Else = []api.Stmt{{Kind: api.StmtHalt}} },
		func(p *api.Program) { p.Tasks[0].Body[0].Args[0].Args[1].N = 1 },
		func(p *api.Program) {
			for range 31 {
				p.Tasks[4].Body = []api.Stmt{{Kind: api.StmtRepeat, Then: p.Tasks[4].Body}, {Kind: api.StmtHalt}}
			}
		},
	} {
		p := program(t, someText)
		change(&p)
		checks(t, p, api.ErrArg, 0, 0)
		// What is wrong otherwise, at each place where something may be, makes no difference.
		p.Devices[0].Name, p.Tasks[0].Name = "a", "clock"
		p.Tasks[2].Line, p.Tasks[2].Priority = 7, 1
		p.Tasks[0].Body = append(p.Tasks[0].Body, api.Stmt{Kind: api.StmtLock, Name: "none"})
		if err, at := rule.Check(p); err != api.ErrArg || at != [2]int{} {
			t.Errorf("%d, wrong otherwise, too: %v at %v", i, err, at)
		}
	}
}

// U2: two of one name, each with each other.
func TestTwins(t *testing.T) {
	parts := program(t, someText)
	n := len(parts.Devices) + len(parts.Resources) + len(parts.Tasks)
	name := func(p *api.Program, i int) *string {
		if i < len(p.Devices) {
			return &p.Devices[i].Name
		}
		i -= len(p.Devices)
		if i < len(p.Resources) {
			return &p.Resources[i].Name
		}
		return &p.Tasks[i-len(p.Resources)].Name
	}
	for i := range n {
		for j := range n {
			p := program(t, someText)
			*name(&p, i) = *name(&p, j)
			if i != j {
				checks(t, p, api.ErrTwice, 0, 0)
			}
			// Wrong tasks and statements make no difference.
			p.Tasks[0].Hart, p.Tasks[0].Body = 3, append(p.Tasks[0].Body, api.Stmt{Kind: api.StmtLock, Name: "none"})
			if i != j {
				checks(t, p, api.ErrTwice, 0, 0)
			} else {
				checks(t, p, api.ErrHart, 0, 0)
			}
		}
	}
	checksText(t, "harts 1 device x uart device X uart resource x1 1 task _x 0 1 { }", api.OK, 0, 0)
}

package source_test

import (
	"slices"
	"strconv"
	"strings"
	"testing"

	"headstock/api"
	"headstock/source"
)

// short tells a deed in short.
func short(d api.Deed) string {
	s := d.Stmt
	switch s.Kind {
	case api.StmtSet:
		return s.Name + "="
	case api.StmtGet:
		return s.Name + "=" + s.From + "." + strconv.Itoa(s.N)
	case api.StmtPut:
		return s.Name + "." + strconv.Itoa(s.N) + "="
	case api.StmtStore:
		return s.Name + "[]="
	case api.StmtLock:
		return "lock " + s.Name
	case api.StmtIf:
		return "if"
	case api.StmtRepeat:
		return "repeat " + strconv.Itoa(s.N)
	case api.StmtHalt:
		return "halt"
	}
	return "leave " + strconv.Itoa(d.Leave)
}

// left is what a hart's last work is still to do, the next one first; each deed's Leave, and a leaving's Stmt, are held.
func (x *play) left(hart int) string {
	x.t.Helper()
	l := x.s.Works[hart]
	if len(l) == 0 {
		return "none"
	}
	var all []string
	for _, d := range slices.Backward(l[len(l)-1].Left) {
		if (d.Stmt.Kind == 0) != (d.Leave >= 0) || d.Stmt.Kind == 0 && (d.Stmt.Name+d.Stmt.From != "" || d.Stmt.N+len(d.Stmt.Args)+len(d.Stmt.Then)+len(d.Stmt.Else) != 0) || d.Stmt.Kind != 0 && d.Leave != -1 {
			x.t.Fatalf("%+v", d)
		}
		all = append(all, short(d))
	}
	return strings.Join(all, ", ")
}

// goes holds what is left behind each step of a hart.
func (x *play) goes(hart int, behind ...string) {
	x.t.Helper()
	for i, want := range behind {
		x.all(step(hart))
		x.asks()
		if got := x.left(hart); got != want {
			x.t.Fatalf("behind step %d: %q, not %q", i+1, got, want)
		}
	}
}

// locals are those of a hart's first work.
func (x *play) locals(hart int) []int { return x.s.Works[hart][0].Locals }

// O5: what each statement does, and what is left then.
func TestDeeds(t *testing.T) {
	x := played(t, "harts 1 device d gpio device e uart resource r 2 task t 0 1 { x = 5; y = -x; e.2 = y; y = e.1; lock r { r[1] = x; r[0] = r[1] * 2; z = r[0]; } x = z; }")
	if got := x.left(0); got != "x=, y=, e.2=, y=e.1, lock r, x=" || !slices.Equal(x.locals(0), []int{0, 0, 0}) {
		t.Fatalf("%s, %v", got, x.locals(0))
	}
	x.goes(0, "y=, e.2=, y=e.1, lock r, x=", "e.2=, y=e.1, lock r, x=")
	if !slices.Equal(x.locals(0), []int{5, -5, 0}) || len(x.s.Trace) != 0 {
		t.Fatalf("%+v", x.s)
	}
	x.goes(0, "y=e.1, lock r, x=", "lock r, x=")
	if !slices.Equal(x.locals(0), []int{5, 2, 0}) || !slices.Equal(x.s.Trace, []api.Access{{Device: 1, Reg: 2, Write: true, N: -5}, {Device: 1, Reg: 1, N: 2}}) || x.s.Devices[1].Regs[2] != -5 {
		t.Fatalf("%+v", x.s)
	}
	x.goes(0, "r[]=, r[]=, z=, leave 0, x=")
	if x.s.Owners[0] != 0 {
		t.Fatalf("%v", x.s.Owners)
	}
	x.goes(0, "r[]=, z=, leave 0, x=", "z=, leave 0, x=", "leave 0, x=")
	if !slices.Equal(x.s.Words[0], []int{10, 5}) || x.s.Owners[0] != 0 {
		t.Fatalf("%+v", x.s)
	}
	x.goes(0, "x=", "")
	if !slices.Equal(x.locals(0), []int{10, 2, 10}) || x.s.Owners[0] != -1 {
		t.Fatalf("%+v", x.s)
	}
	x.goes(0, "none")
	x.fails(step(0), api.ErrNone)
}

// O5: if and repeat.
func TestBranches(t *testing.T) {
	for text, want := range map[string][]string{
		"if (1) { x = 1; y = 2; } else { z = 3; } w = 4;": {"x=, y=, w=", "y=, w=", "w=", ""},
		"if (0) { x = 1; y = 2; } else { z = 3; } w = 4;": {"z=, w=", "w=", ""},
		"if (-1) { x = 1; } w = 4;":                       {"x=, w=", "w=", ""},
		"if (2147483648) { x = 1; }":                      {"x=", ""},
		"if (0) { x = 1; } w = 4;":                        {"w=", ""},
		"if (1) { } else { x = 1; } w = 4;":               {"w=", ""},
		"if (x) { x = 1; } else { if (!x) { halt; } }":    {"if", "halt", ""},
		"repeat 0 { x = 1; } w = 4;":                      {"w=", ""},
		"repeat 1 { x = 1; } w = 4;":                      {"x=, repeat 0, w=", "repeat 0, w=", "w=", ""},
		"repeat 2 { x = 1; y = 2; } w = 4;":               {"x=, y=, repeat 1, w=", "y=, repeat 1, w=", "repeat 1, w=", "x=, y=, repeat 0, w=", "y=, repeat 0, w=", "repeat 0, w=", "w=", ""},
		"repeat 3 { }":                                    {"repeat 2", "repeat 1", "repeat 0", ""},
		"repeat 1 { repeat 2 { x = 1; } y = 2; }":         {"repeat 2, y=, repeat 0", "x=, repeat 1, y=, repeat 0", "repeat 1, y=, repeat 0", "x=, repeat 0, y=, repeat 0", "repeat 0, y=, repeat 0", "y=, repeat 0", "repeat 0", ""},
		"": {},
	} {
		x := played(t, "harts 1 task t 0 1 { "+text+" }")
		x.goes(0, append(want, "none")...)
	}
}

// O5: of all that is left only what leaves resources stays, in its order.
func TestHalt(t *testing.T) {
	for text, want := range map[string][]string{
		"halt; x = 1;":                                          {""},
		"halt;":                                                 {""},
		"halt; lock a { halt; } x = 1;":                         {""},
		"lock a { x = 1; halt; y = 1; }":                        {"x=, halt, y=, leave 0", "halt, y=, leave 0", "leave 0", ""},
		"lock a { halt; } x = 1;":                               {"halt, leave 0, x=", "leave 0", ""},
		"lock a { lock c { halt; } x=1; }":                      {"lock c, x=, leave 0", "halt, leave 2, x=, leave 0", "leave 2, leave 0", "leave 0", ""},
		"repeat 5 { if (1) { halt; } x=1;}":                     {"if, x=, repeat 4", "halt, x=, repeat 4", ""},
		"repeat 2 { lock b { repeat 3 { lock c { halt; } } } }": {"lock b, repeat 1", "repeat 3, leave 1, repeat 1", "lock c, repeat 2, leave 1, repeat 1", "halt, leave 2, repeat 2, leave 1, repeat 1", "leave 2, leave 1", "leave 1", ""},
	} {
		x := played(t, "harts 1 resource a 1 resource b 1 resource c 1 task t 0 1 { "+text+" }")
		x.goes(0, append(want, "none")...)
		if !slices.Equal(x.s.Owners, []int{-1, -1, -1}) {
			t.Errorf("%s: %v", text, x.s.Owners)
		}
	}
}

// O5: a handler that halts ends itself alone: what it interrupts goes on, and holds what it held.
func TestHaltOfHandler(t *testing.T) {
	x := played(t, "harts 1 resource a 1 resource b 1 resource c 1 task t 0 1 { lock b { x = 1; } y = 1; } handler h 0 5 0 { lock a { } } handler i 0 6 1 { lock c { c[1] = 1; } q = 1; } handler j 0 7 2 { halt; halt; }")
	x.all(step(0), raise(0), raise(1), take(0))
	x.goes(0, "c[]=, leave 2, q=")
	x.all(raise(2), take(0))
	x.goes(0, "", "c[]=, leave 2, q=", "leave 2")
	if !slices.Equal(x.s.Owners, []int{-1, 0, 0}) {
		t.Fatalf("%v", x.s.Owners)
	}
	x.goes(0, "", "x=, leave 1, y=")
	x.fails(take(0), api.ErrNone)
	x.goes(0, "leave 1, y=", "y=")
	x.all(take(0))
	x.goes(0, "leave 0", "", "y=", "", "none")
	if !slices.Equal(x.s.Owners, []int{-1, -1, -1}) {
		t.Fatalf("%v", x.s.Owners)
	}
}

// O5: a value that is not there, or the place of a store, ends the work, but what it holds is left; nothing else is done.
func TestMissing(t *testing.T) {
	for _, body := range []string{
		"x = r[8];", "x = r[-1];", "x = r[r[0] + 8];", "x = 1 + r[9];", "x = r[9] + r[0];", "x = -r[2147483648];", "x = 0 * r[4294967295];", "x = x & 0 & r[x + 8];",
		"d.0 = r[8];", "d.3 = d3 + r[-1];", "e.2 = ~r[99];",
		"r[8] = 1;", "r[-1] = 1;", "r[2147483647] = x;", "r[x - 1] = 1;", "r[r[8]] = 1;", "r[0] = r[8];", "r[8] = r[8];", "r[r[7] + 8] = r[0];",
		"if (r[8]) { x = 1; } else { x = 2; }", "if (!r[8]) { x = 1; } else { x = 2; }", "if (r[r[8]]) { } else { x = 2; }",
	} {
		x := played(t, "harts 1 device d uart device e gpio resource q 1 resource r 8 task t 0 1 { repeat 2 { lock q { lock r { "+body+" x = 7; } y = 7; } } z = 7; }")
		x.all(steps(0, 3)...)
		words, devices, locals := state(api.Source{Words: x.s.Words}), state(api.Source{Devices: x.s.Devices}), slices.Clone(x.locals(0))
		x.goes(0, "leave 1, leave 0")
		if len(x.s.Trace) != 0 || state(api.Source{Words: x.s.Words}) != words || state(api.Source{Devices: x.s.Devices}) != devices || !slices.Equal(x.locals(0), locals) {
			t.Errorf("%s: %s", body, state(x.s))
		}
		x.goes(0, "leave 0", "", "none")
		if !slices.Equal(x.s.Owners, []int{-1, -1}) {
			t.Errorf("%s: %v", body, x.s.Owners)
		}
	}
	// The document's fourth example.
	x := played(t, "harts 1 resource r 8 task t 0 1 { lock r { x = r[9]; } }")
	x.goes(0, "x=, leave 0", "leave 0", "", "none")
	if x.s.Owners[0] != -1 {
		t.Errorf("%v", x.s.Owners)
	}
}

// O5: what is there at the edges of each resource.
func TestWords(t *testing.T) {
	for words := 1; words <= api.MaxRes; words++ {
		for place := -2; place <= 9; place++ {
			x := played(t, "harts 1 resource q 8 resource r "+strconv.Itoa(words)+" resource s 8 task t 0 1 { lock r { r["+strconv.Itoa(place)+"] = 6; x = r["+strconv.Itoa(place)+"] + 1; } }")
			n := x.ends(0)
			is := place >= 0 && place < words
			if is && (n != 5 || x.s.Words[1][place] != 6) || !is && (n != 4 || slices.Contains(x.s.Words[1], 6)) || slices.Contains(x.s.Words[0], 6) || slices.Contains(x.s.Words[2], 6) {
				t.Errorf("%d of %d: %d steps, %v", place, words, n, x.s.Words)
			}
		}
	}
}

// O5: what another hart holds is waited for: nothing is done meanwhile, and the deed is still left.
func TestBusy(t *testing.T) {
	x := played(t, "harts 3 resource a 1 resource b 1 task t 0 1 { lock a { x = 1; } } task s 1 1 { lock a { lock b { } } x = 1; } task u 2 1 { lock b { x = 1; } } handler h 1 5 0 { lock b { } }")
	x.all(step(0))
	for range 3 {
		x.fails(step(1), api.ErrBusy)
	}
	if got := x.left(1); got != "lock a, x=" {
		t.Fatalf("%s", got)
	}
	x.all(step(2), step(0))
	x.fails(step(1), api.ErrBusy)
	x.all(step(0), step(1))
	if !slices.Equal(x.s.Owners, []int{1, 2}) {
		t.Fatalf("%v", x.s.Owners)
	}
	x.fails(step(1), api.ErrBusy)
	x.all(step(2), step(2), step(1), step(1), step(1))
	if !slices.Equal(x.s.Owners, []int{-1, -1}) {
		t.Fatalf("%v", x.s.Owners)
	}
	// A handler waits, too, and with it the work below.
	y := played(t, "harts 2 resource b 1 task t 0 1 { lock b { } } task s 1 1 { x = 1; } handler h 1 5 0 { lock b { } }")
	y.all(step(0), raise(0), take(1))
	y.fails(step(1), api.ErrBusy)
	y.all(step(0), step(1), step(1), step(1))
	if y.left(1) != "x=" || y.s.Owners[0] != -1 {
		t.Errorf("%+v", y.s)
	}
}

// O5: each register of each device, read and written, by its name and its number.
func TestRegisters(t *testing.T) {
	kinds := []string{"uart", "timer", "gpio"}
	for which := range kinds {
		for reg := range 4 {
			name := "d" + strconv.Itoa(which)
			at := name + "." + strconv.Itoa(reg)
			x := played(t, "harts 2 device d0 uart device d1 timer device d2 gpio task t 1 1 { x = "+at+"; "+at+" = -6; x = "+at+"; "+at+" = x + 1; y = "+at+"; }")
			for i := range 3 {
				x.all(input(i, 200+i), input(i, 201+i))
			}
			x.ends(1)
			if len(x.s.Trace) != 5 {
				t.Fatalf("%+v", x.s.Trace)
			}
			for i, a := range x.s.Trace {
				if a.Hart != 1 || a.Device != which || a.Reg != reg || a.Write != (i%2 == 1) || i == 1 && a.N != -6 || i == 3 && a.N != x.s.Trace[2].N+1 {
					t.Errorf("%s, access %d: %+v", at, i, a)
				}
			}
			for i := range 3 {
				if i != which && x.s.Devices[i].Sent+x.s.Devices[i].Regs[2] != 0 {
					t.Errorf("%s: %+v", at, x.s.Devices)
				}
			}
		}
	}
}

// O5: a register's number becomes the local; what is written is cut to 32 bits, as the access tells it.
func TestAccesses(t *testing.T) {
	x := played(t, "harts 1 device g gpio device u uart task t 0 1 { g.0 = 4294967295; g.2 = 2147483647 + 1; x = g.1; u.0 = x; x = g.0; y = u.3; z = x * y; }")
	x.all(input(0, 1<<31+9))
	x.all(steps(0, 7)...)
	want := []api.Access{{Write: true, N: -1}, {Reg: 2, Write: true, N: -1 << 31}, {Reg: 1, N: -1<<31 + 9}, {Device: 1, Write: true, N: -1<<31 + 9}, {N: -1}, {Device: 1, Reg: 3, N: 1}}
	if !slices.Equal(x.s.Trace, want) || !slices.Equal(x.locals(0), []int{-1, 1, -1}) {
		t.Errorf("%+v, %v", x.s.Trace, x.locals(0))
	}
}

// O5: as many statements in one another, and as much again and again, as may be.
func TestMost(t *testing.T) {
	x := played(t, "harts 1 task t 0 1 { repeat 20 { repeat 20 { repeat 20 { x = x + 1; } } } }")
	s, n := source.Run(x.s, steps(0, 20000))
	// Each block is gone into 20 times, and each repeat is done once more than that.
	if want := 21 + 20*21 + 400*21 + 8000 + 1; n != want || len(s.Works[0]) != 0 {
		t.Errorf("%d steps, not %d", n, want)
	}
	if s, _ = source.Run(x.s, steps(0, n-1)); len(s.Works[0]) != 1 || s.Works[0][0].Locals[0] != 8000 {
		t.Errorf("%+v", s.Works)
	}
	deep := "x = 1;"
	for range 29 {
		deep = "if (!x) { " + deep + " }"
	}
	x = played(t, "harts 1 task t 0 1 { "+deep+" }")
	if n := x.ends(0); n != 31 {
		t.Errorf("%d steps", n)
	}
	x = played(t, "harts 1 resource a 1 resource b 1 resource c 1 resource d 1 resource e 1 resource f 1 resource g 1 resource h 1 task t 0 1 { lock a { lock b { lock c { lock d { lock e { lock f { lock g { lock h { a[0] = 1; h[0] = a[0]; halt; } } } } } } } } }")
	if n := x.ends(0); n != 8+3+8+1 || x.s.Words[7][0] != 1 {
		t.Errorf("%d steps", n)
	}
}

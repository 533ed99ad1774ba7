package syntax_test

import (
	"fmt"
	"reflect"
	"slices"
	"strings"
	"testing"

	"headstock/api"
	"headstock/syntax"
)

func num(n int) api.Expr         { return api.Expr{Kind: api.ExprNum, N: n} }
func local(name string) api.Expr { return api.Expr{Kind: api.ExprVar, Name: name} }

func one(op int, e api.Expr) api.Expr {
	return api.Expr{Kind: api.ExprOne, Op: op, Args: []api.Expr{e}}
}

func two(op int, a, b api.Expr) api.Expr {
	return api.Expr{Kind: api.ExprTwo, Op: op, Args: []api.Expr{a, b}}
}

func at(name string, e api.Expr) api.Expr {
	return api.Expr{Kind: api.ExprAt, Name: name, Args: []api.Expr{e}}
}

func set(name string, e api.Expr) api.Stmt {
	return api.Stmt{Kind: api.StmtSet, Name: name, Args: []api.Expr{e}}
}

func get(name, from string, n int) api.Stmt {
	return api.Stmt{Kind: api.StmtGet, Name: name, From: from, N: n}
}

func put(name string, n int, e api.Expr) api.Stmt {
	return api.Stmt{Kind: api.StmtPut, Name: name, N: n, Args: []api.Expr{e}}
}

func store(name string, a, b api.Expr) api.Stmt {
	return api.Stmt{Kind: api.StmtStore, Name: name, Args: []api.Expr{a, b}}
}

func lock(name string, then ...api.Stmt) api.Stmt {
	return api.Stmt{Kind: api.StmtLock, Name: name, Then: then}
}

func cond(e api.Expr, then, other []api.Stmt) api.Stmt {
	return api.Stmt{Kind: api.StmtIf, Args: []api.Expr{e}, Then: then, Else: other}
}

func repeat(n int, then ...api.Stmt) api.Stmt {
	return api.Stmt{Kind: api.StmtRepeat, N: n, Then: then}
}

func halt() api.Stmt { return api.Stmt{Kind: api.StmtHalt} }

// with is a program of one task, of these statements.
func with(l ...api.Stmt) api.Program {
	return api.Program{Harts: 1, Tasks: []api.Task{{Name: "t", Priority: 1, Body: l}}}
}

// some is a program with all that one may have.
func some() api.Program {
	return api.Program{
		Harts:     3,
		Devices:   []api.Device{{Name: "u", Kind: api.DeviceUart}, {Name: "clock", Kind: api.DeviceTimer}, {Name: "Pins", Kind: api.DeviceGpio}},
		Resources: []api.Resource{{Name: "r", Words: 8}, {Name: "_s", Words: 1}},
		Tasks: []api.Task{
			{Name: "main", Hart: 0, Priority: 1, Body: []api.Stmt{
				set("x", two(api.OpMul, two(api.OpAdd, num(1), num(2)), num(3))),
				get("y", "clock", 3),
				put("u", 0, at("r", local("x"))),
				lock("r", store("r", num(7), one(api.OpNeg, local("y"))), lock("_s")),
				cond(two(api.OpLess, local("x"), num(4294967295)), []api.Stmt{halt()}, []api.Stmt{repeat(20, set("x", num(0))), halt()}),
				cond(one(api.OpNot, two(api.OpOr, local("x"), local("y"))), nil, nil),
				cond(num(1), nil, []api.Stmt{repeat(0)}),
			}},
			{Name: "idle", Hart: 2, Priority: 7},
			{Name: "tick", Handler: true, Hart: 3, Priority: 5, Line: 7, Body: []api.Stmt{halt()}},
			{Name: "tock", Handler: true, Hart: 0, Priority: 2},
		},
	}
}

const someText = `harts 3
device u uart
device clock timer
device Pins gpio
resource r 8
resource _s 1
task main 0 1 {
	x = (1 + 2) * 3;
	y = clock.3;
	u.0 = r[x];
	lock r {
		r[7] = -y;
		lock _s {
		}
	}
	if (x <. 4294967295) {
		halt;
	} else {
		repeat 20 {
			x = 0;
		}
		halt;
	}
	if (!(x | y)) {
	}
	if (1) {
	} else {
		repeat 0 {
		}
	}
}
task idle 2 7 {
}
handler tick 3 5 7 {
	halt;
}
handler tock 0 2 0 {
}
`

// someSize are the statements and the expressions of some, counted by hand.
const someSize = 15 + 19

// short is the beginning of what a program is, in words.
func short(p api.Program) string { return fmt.Sprintf("%.300s", fmt.Sprint(p)) }

// prints holds what is said of a right program.
func prints(t *testing.T, p api.Program, want string) {
	t.Helper()
	if got, err := syntax.Print(p); got != want || err != api.OK {
		t.Errorf("%v: %.500q, not %.500q", err, got, want)
	}
	if !syntax.Right(p) {
		t.Errorf("not right: %.300q", want)
	}
}

// refuses holds what is said of a program that is not right.
func refuses(t *testing.T, p api.Program) {
	t.Helper()
	if got, err := syntax.Print(p); got != "" || err != api.ErrArg {
		t.Errorf("%v %.300q of %s", err, got, short(p))
	}
	if syntax.Right(p) {
		t.Errorf("right: %s", short(p))
	}
}

// holds is what is said of any program, by the chapter's words.
func holds(t *testing.T, p api.Program) {
	t.Helper()
	if isRight(p) {
		prints(t, p, wholeOf(p))
	} else {
		refuses(t, p)
	}
}

// holdsExpr is what is said of any expression, alone and in a program.
func holdsExpr(t *testing.T, e api.Expr) {
	t.Helper()
	text, err := syntax.Expr(e)
	if isRightExpr(e) {
		if text != textOf(e) || err != api.OK {
			t.Errorf("%v %q, not %q", err, text, textOf(e))
		}
	} else if text != "" || err != api.ErrArg {
		t.Errorf("%v %q of %v", err, text, e)
	}
	if p := with(set("x", e)); syntax.Right(p) != isRightExpr(e) {
		t.Errorf("%t of %v", syntax.Right(p), e)
	}
}

// names are texts, some of which are names.
var names = []string{"", "x", "lock", "uart", "harts", "Lock", "1a", "a b", "x\n", "ä", "_", "a2345678901234567890", "a23456789012345678901", ";"}

// numbers are numbers at each edge.
var numbers = []int{least, -1, 0, 1, 2, 3, 4, 5, 7, 8, 9, 17, 20, 21, 1<<31 - 1, 1 << 31, 1<<32 - 1, 1 << 32, most}

// Y1 to Y3: the chapter's example, and a program with all that one may have.
func TestExamples(t *testing.T) {
	prints(t, with(set("x", two(api.OpMul, two(api.OpAdd, num(1), num(2)), num(3)))), "harts 1\ntask t 0 1 {\n\tx = (1 + 2) * 3;\n}\n")
	prints(t, some(), someText)
	if wholeOf(some()) != someText {
		t.Error(wholeOf(some()))
	}
	prints(t, api.Program{Harts: 4}, "harts 4\n")
	refuses(t, api.Program{})
}

// Y1: the numbers of a program, and its lists' lengths.
func TestProgram(t *testing.T) {
	for _, n := range numbers {
		p := some()
		p.Harts = n
		holds(t, p)
	}
	for n := range 20 {
		p := api.Program{Harts: 1, Devices: slices.Repeat(some().Devices[:1], n)}
		if syntax.Right(p) != (n <= 8) {
			t.Error("devices", n)
		}
		holds(t, p)
		p = api.Program{Harts: 1, Resources: slices.Repeat(some().Resources[:1], n)}
		if syntax.Right(p) != (n <= 8) {
			t.Error("resources", n)
		}
		holds(t, p)
		p = api.Program{Harts: 1, Tasks: slices.Repeat(some().Tasks[:1], n)}
		if syntax.Right(p) != (n <= 16) {
			t.Error("tasks", n)
		}
		holds(t, p)
	}
	full := api.Program{Harts: 4, Devices: slices.Repeat(some().Devices[:1], 8), Resources: slices.Repeat(some().Resources[:1], 8), Tasks: slices.Repeat(some().Tasks[:1], 16)}
	prints(t, full, wholeOf(full))
}

// Y1: devices and resources, at any place.
func TestDevicesAndResources(t *testing.T) {
	for i := range 3 {
		for _, name := range names {
			for _, kind := range numbers {
				p := some()
				p.Devices[i] = api.Device{Name: name, Kind: kind}
				if syntax.Right(p) != (isName(name) && kind >= 1 && kind <= 3) {
					t.Error(i, name, kind)
				}
				holds(t, p)
				p = some()
				p.Resources[i%2] = api.Resource{Name: name, Words: kind}
				if syntax.Right(p) != (isName(name) && kind >= 1 && kind <= 8) {
					t.Error(i, name, kind)
				}
				holds(t, p)
			}
		}
	}
}

// Y1: tasks and handlers, at any place.
func TestTasks(t *testing.T) {
	for i := range 4 {
		for _, n := range numbers {
			for _, handler := range []bool{false, true} {
				for k, change := range []func(*api.Task){
					func(x *api.Task) { x.Hart = n },
					func(x *api.Task) { x.Priority = n },
					func(x *api.Task) { x.Line = n },
					func(x *api.Task) { x.Line = 0 },
				} {
					p := some()
					p.Tasks[i].Handler, p.Tasks[i].Line = handler, 0
					change(&p.Tasks[i])
					want := [...]bool{n >= 0 && n <= 3, n >= 1 && n <= 7, n == 0 || handler && n > 0 && n <= 7, true}[k]
					if syntax.Right(p) != want {
						t.Error(i, n, handler, k)
					}
					holds(t, p)
				}
			}
		}
		for _, name := range names {
			p := some()
			p.Tasks[i].Name = name
			if syntax.Right(p) != isName(name) {
				t.Error(i, name)
			}
			holds(t, p)
		}
	}
}

// Y1 and Y2: each kind of expression, with each that it may have and may not.
func TestExprParts(t *testing.T) {
	right := 0
	for kind := -1; kind <= 7; kind++ {
		for op := -1; op <= 19; op++ {
			for _, n := range numbers {
				for _, name := range names {
					for args := range 4 {
						e := api.Expr{Kind: kind, Op: op, N: n, Name: name, Args: []api.Expr{num(1), local("y"), num(3)}[:args]}
						holdsExpr(t, e)
						if isRightExpr(e) {
							right++
						}
					}
				}
			}
		}
	}
	// 15 of the numbers may be one, 4 of the texts are names.
	if want := 15 + 4 + 3 + 14 + 4; right != want {
		t.Error(right)
	}
	for _, kind := range []int{least, most, -5, 1 << 32, 1<<32 + 1} {
		holdsExpr(t, api.Expr{Kind: kind})
		holdsExpr(t, api.Expr{Kind: kind, N: 1})
		holds(t, with(api.Stmt{Kind: kind}))
		holdsExpr(t, one(kind, num(1)))
		holdsExpr(t, two(kind, num(1), num(1)))
	}
}

// Y1 and Y3: each kind of statement, with each that it may have and may not.
func TestStmtParts(t *testing.T) {
	right := 0
	for kind := -1; kind <= 10; kind++ {
		for _, name := range names {
			for _, from := range []string{"", "d", "task", "9", "d d"} {
				for _, n := range numbers {
					for args := range 4 {
						for inner := range 4 {
							s := api.Stmt{Kind: kind, Name: name, From: from, N: n, Args: []api.Expr{num(1), local("y"), num(3)}[:args], Then: []api.Stmt{halt()}[:inner%2], Else: []api.Stmt{halt()}[:inner/2]}
							if isRightStmt(s) {
								right++
								prints(t, with(s), wholeOf(with(s)))
							} else if syntax.Right(with(s)) {
								t.Errorf("right: %v", s)
							}
						}
					}
				}
			}
		}
	}
	// 4 of the texts are names, one of those for From; 4 of the numbers are registers', 11 may be how often.
	if want := 4 + 4*4 + 4*4 + 4 + 4*2 + 4 + 11*2 + 1; right != want {
		t.Error(right)
	}
}

// nested are expressions and statements of so many parts in one another, each in another way.
func nestedExprs(deep int) []api.Expr {
	ways := []func(api.Expr) api.Expr{
		func(e api.Expr) api.Expr { return one(api.OpNeg, e) },
		func(e api.Expr) api.Expr { return at("r", e) },
		func(e api.Expr) api.Expr { return two(api.OpAdd, e, num(1)) },
		func(e api.Expr) api.Expr { return two(api.OpAdd, num(1), e) },
	}
	ways = append(ways, func(e api.Expr) api.Expr { return ways[depthOfExpr(e)%4](e) })
	var l []api.Expr
	for _, way := range ways {
		e := num(5)
		for range deep - 1 {
			e = way(e)
		}
		l = append(l, e)
	}
	return l
}

func nestedStmts(deep int, innermost ...api.Stmt) []api.Stmt {
	ways := []func([]api.Stmt) api.Stmt{
		func(l []api.Stmt) api.Stmt { return lock("r", l...) },
		func(l []api.Stmt) api.Stmt { return repeat(2, l...) },
		func(l []api.Stmt) api.Stmt { return cond(num(1), l, nil) },
		func(l []api.Stmt) api.Stmt { return cond(num(1), nil, l) },
		func(l []api.Stmt) api.Stmt { return cond(num(1), []api.Stmt{halt()}, l) },
		func(l []api.Stmt) api.Stmt { return cond(num(1), l, []api.Stmt{halt()}) },
	}
	ways = append(ways, func(l []api.Stmt) api.Stmt { return ways[depthOfStmt(l[0])%6](l) })
	var all []api.Stmt
	for _, way := range ways {
		l := innermost
		for range deep - 1 {
			l = []api.Stmt{way(l)}
		}
		all = append(all, l[0])
	}
	return all
}

// Y1 to Y3: how deep may be what.
func TestDeep(t *testing.T) {
	for _, deep := range []int{1, 2, 3, 28, 29, 30, 31, 32, 60, 100} {
		for i, e := range nestedExprs(deep) {
			holdsExpr(t, e)
			text, err := syntax.Expr(e)
			if (err == api.OK) != (deep <= 30) || (text == "") != (deep > 30) {
				t.Error("expression", i, deep, err)
			}
			for _, s := range []api.Stmt{set("x", e), put("d", 1, e), store("r", e, num(1)), store("r", num(1), e), cond(e, nil, nil)} {
				for _, outer := range []api.Program{with(s), with(halt(), lock("r", halt(), s))} {
					holds(t, outer)
					if syntax.Right(outer) != (deep <= 30) {
						t.Error("expression in a statement", i, deep)
					}
				}
			}
		}
		for _, innermost := range []api.Stmt{halt(), lock("r"), cond(num(1), nil, nil), repeat(1), set("x", nestedExprs(30)[0])} {
			for i, s := range nestedStmts(deep, innermost) {
				holds(t, with(s))
				holds(t, with(halt(), s, halt()))
				if syntax.Right(with(s)) != (deep <= 30) {
					t.Error("statement", i, deep)
				}
			}
		}
	}
}

// R6: parts that are nested 2^16 times are counted, held against others, and not right.
func TestVeryDeep(t *testing.T) {
	const deep = 1 << 16
	e, f, s, u := num(1), num(2), halt(), lock("r")
	for range deep - 1 {
		e, f = one(api.OpNot, e), one(api.OpNot, f)
		s, u = repeat(1, s), repeat(1, u)
	}
	if text, err := syntax.Expr(e); text != "" || err != api.ErrArg {
		t.Error(text, err)
	}
	p, q := with(set("x", e)), with(s)
	refuses(t, p)
	refuses(t, q)
	if syntax.Size(p) != deep+1 || syntax.Size(q) != deep {
		t.Error(syntax.Size(p), syntax.Size(q))
	}
	if !syntax.Same(p, p) || !syntax.Same(q, q) || syntax.Same(p, with(set("x", f))) || syntax.Same(q, with(u)) {
		t.Error("same")
	}
}

// Y1 to Y3: many statements side by side are no more than that.
func TestWide(t *testing.T) {
	p := with(slices.Repeat([]api.Stmt{lock("r", slices.Repeat([]api.Stmt{halt()}, 100)...)}, 1000)...)
	prints(t, p, wholeOf(p))
	if syntax.Size(p) != 101000 {
		t.Error(syntax.Size(p))
	}
	p.Tasks[0].Body[999].Then[99].N = 1
	refuses(t, p)
}

// Y1: how many statements and expressions there are, of wrong programs, too.
func TestSize(t *testing.T) {
	for _, x := range []struct {
		p    api.Program
		want int
	}{
		{api.Program{}, 0}, {with(), 0}, {some(), someSize}, {with(halt()), 1}, {with(halt(), halt()), 2},
		{with(set("x", num(1))), 2}, {with(set("x", two(api.OpAdd, num(1), one(api.OpNeg, at("r", num(2)))))), 6},
		{with(store("r", num(1), num(2))), 3}, {with(lock("r", halt(), lock("s", halt()))), 4},
		{with(cond(num(1), []api.Stmt{halt()}, []api.Stmt{halt(), set("x", num(1))})), 6},
		{with(repeat(20, halt())), 2},
		{api.Program{Tasks: []api.Task{{Body: []api.Stmt{halt()}}, {Body: []api.Stmt{halt(), halt()}}, {}}}, 3},
		{with(api.Stmt{}), 1}, {with(api.Stmt{Kind: 77, Args: make([]api.Expr, 5), Then: make([]api.Stmt, 7), Else: make([]api.Stmt, 11)}), 24},
		{with(api.Stmt{Kind: api.StmtHalt, Args: []api.Expr{{Kind: api.ExprNum, Args: make([]api.Expr, 3)}}}), 5},
		{with(nestedStmts(100, halt())[3]), 199}, {with(set("x", nestedExprs(100)[2])), 200},
		{api.Program{Harts: 4, Devices: make([]api.Device, 9), Resources: make([]api.Resource, 9), Tasks: make([]api.Task, 20)}, 0},
	} {
		if got := syntax.Size(x.p); got != x.want {
			t.Errorf("%d, not %d: %s", got, x.want, short(x.p))
		}
	}
}

// Y1: an empty list is the same as none; of programs that are not right it is told, too, whether they are the same.
func TestSameEmpty(t *testing.T) {
	none, empty := api.Program{Tasks: []api.Task{{Body: []api.Stmt{{Kind: 9}}}}}, api.Program{
		Devices: []api.Device{}, Resources: []api.Resource{},
		Tasks: []api.Task{{Body: []api.Stmt{{Kind: 9, Args: []api.Expr{}, Then: []api.Stmt{}, Else: []api.Stmt{}}}}},
	}
	if !syntax.Same(none, empty) || !syntax.Same(empty, none) || !syntax.Same(api.Program{}, api.Program{Tasks: []api.Task{}}) {
		t.Error("unlike")
	}
	p, q := with(set("x", num(1)), cond(num(1), nil, nil)), with(set("x", num(1)), cond(num(1), []api.Stmt{}, []api.Stmt{}))
	p.Tasks[0].Body[0].Args[0].Args = []api.Expr{}
	if !syntax.Same(p, q) {
		t.Error("unlike")
	}
	for i, x := range [][2]api.Program{
		{{}, {Harts: 1}}, {{Harts: -1}, {Harts: 1}},
		{with(), {Harts: 1}}, {with(halt()), with()}, {with(halt()), with(halt(), halt())},
		{with(halt(), lock("r")), with(lock("r"), halt())},
		{with(lock("r", halt())), with(lock("r"), halt())},
		{with(cond(num(1), []api.Stmt{halt()}, nil)), with(cond(num(1), nil, []api.Stmt{halt()}))},
		{with(store("r", num(1), num(2))), with(store("r", num(2), num(1)))},
		{with(set("x", two(api.OpAdd, num(1), num(2)))), with(set("x", two(api.OpAdd, num(2), num(1))))},
		{with(set("x", num(1))), with(set("x", num(1+1<<32)))},
		{with(set("x", local("y"))), with(set("y", local("x")))},
	} {
		if syntax.Same(x[0], x[1]) || syntax.Same(x[1], x[0]) {
			t.Error(i)
		}
	}
}

// R3: what is handed in is not written into, nor what stands behind its lists' lengths.
func TestMemory(t *testing.T) {
	roomy := func() api.Program {
		p := some()
		spare(reflect.ValueOf(&p).Elem())
		return p
	}
	p, q := roomy(), roomy()
	syntax.Right(p)
	syntax.Same(p, q)
	syntax.Size(p)
	syntax.Expr(p.Tasks[0].Body[0].Args[0])
	if text, err := syntax.Print(p); text != someText || err != api.OK {
		t.Error(text, err)
	}
	if want := roomy(); !reflect.DeepEqual(whole(reflect.ValueOf(p)), whole(reflect.ValueOf(want))) {
		t.Error("written into")
	}
}

// spare gives each list room behind its length, with something in it.
func spare(v reflect.Value) {
	switch v.Kind() {
	case reflect.Struct:
		for i := range v.NumField() {
			spare(v.Field(i))
		}
	case reflect.Slice:
		for i := range v.Len() {
			spare(v.Index(i))
		}
		n := v.Len()
		l := reflect.MakeSlice(v.Type(), n+2, n+2)
		reflect.Copy(l, v)
		for i := n; i < n+2; i++ {
			l.Index(i).FieldByName("Name").SetString("behind")
		}
		v.Set(l.Slice(0, n))
	}
}

// whole is all that there is of a value, behind the lengths, too, with the lists' lengths.
func whole(v reflect.Value) any {
	switch v.Kind() {
	case reflect.Struct:
		var l []any
		for i := range v.NumField() {
			l = append(l, whole(v.Field(i)))
		}
		return l
	case reflect.Slice:
		l := []any{v.Len()}
		all := v.Slice(0, v.Cap())
		for i := range all.Len() {
			l = append(l, whole(all.Index(i)))
		}
		return l
	}
	return v.Interface()
}

// Y2: parentheses stand where they must, and nowhere else.
func TestExprText(t *testing.T) {
	x, y, z := local("x"), local("y"), local("z")
	for want, e := range map[string]api.Expr{
		"0": num(0), "4294967295": num(1<<32 - 1), "10": num(10), "x": x, "r[0]": at("r", num(0)),
		"r[r[x] + 1]": at("r", two(api.OpAdd, at("r", x), num(1))),
		"-x":          one(api.OpNeg, x), "--x": one(api.OpNeg, one(api.OpNeg, x)), "!~-1": one(api.OpNot, one(api.OpInv, one(api.OpNeg, num(1)))),
		"-(x + y)": one(api.OpNeg, two(api.OpAdd, x, y)), "-x + y": two(api.OpAdd, one(api.OpNeg, x), y), "x - -y": two(api.OpSub, x, one(api.OpNeg, y)),
		"-r[x + y]":     one(api.OpNeg, at("r", two(api.OpAdd, x, y))),
		"!!(x | y)":     one(api.OpNot, one(api.OpNot, two(api.OpOr, x, y))),
		"x - y - z":     two(api.OpSub, two(api.OpSub, x, y), z),
		"x - (y - z)":   two(api.OpSub, x, two(api.OpSub, y, z)),
		"x + (y - z)":   two(api.OpAdd, x, two(api.OpSub, y, z)),
		"x * y + z":     two(api.OpAdd, two(api.OpMul, x, y), z),
		"x * (y + z)":   two(api.OpMul, x, two(api.OpAdd, y, z)),
		"(x + y) * z":   two(api.OpMul, two(api.OpAdd, x, y), z),
		"x + y * z":     two(api.OpAdd, x, two(api.OpMul, y, z)),
		"x * (y / z)":   two(api.OpMul, x, two(api.OpDiv, y, z)),
		"x % y / z":     two(api.OpDiv, two(api.OpRem, x, y), z),
		"x | y ^ z":     two(api.OpOr, x, two(api.OpXor, y, z)),
		"(x | y) ^ z":   two(api.OpXor, two(api.OpOr, x, y), z),
		"(x ^ y) & z":   two(api.OpAnd, two(api.OpXor, x, y), z),
		"x & y == z":    two(api.OpAnd, x, two(api.OpEq, y, z)),
		"x == (y != z)": two(api.OpEq, x, two(api.OpNe, y, z)),
		"x < y <. z":    two(api.OpLess, two(api.OpLt, x, y), z),
		"x << (y >> z)": two(api.OpShl, x, two(api.OpShr, y, z)),
		"x << y + z":    two(api.OpShl, x, two(api.OpAdd, y, z)),
		"(x << y) + z":  two(api.OpAdd, two(api.OpShl, x, y), z),
		"(x < y) << z":  two(api.OpShl, two(api.OpLt, x, y), z),
	} {
		if got, err := syntax.Expr(e); got != want || err != api.OK {
			t.Errorf("%q %v, not %q", got, err, want)
		}
		if textOf(e) != want {
			t.Errorf("%q, not %q", textOf(e), want)
		}
	}
}

// ops are all operators of two.
func ops() []int {
	var l []int
	for _, level := range binary {
		for op := range level {
			l = append(l, op)
		}
	}
	slices.Sort(l)
	return l
}

// Y2: each operator within each other one, on each side, and within those of one.
func TestExprPairs(t *testing.T) {
	if len(ops()) != 14 {
		t.Fatal(ops())
	}
	x, y, z := local("x"), num(7), at("r", num(1))
	for _, outer := range ops() {
		holdsExpr(t, two(outer, x, y))
		for _, inner := range ops() {
			holdsExpr(t, two(outer, two(inner, x, y), z))
			holdsExpr(t, two(outer, x, two(inner, y, z)))
			for _, other := range ops() {
				holdsExpr(t, two(outer, two(inner, x, y), two(other, z, x)))
			}
		}
		for op := range unary {
			holdsExpr(t, one(op, two(outer, x, y)))
			holdsExpr(t, two(outer, one(op, x), one(op, y)))
			holdsExpr(t, one(op, one(op, two(outer, x, y))))
			holdsExpr(t, at("r", two(outer, one(op, x), y)))
		}
	}
}

// Y3: each statement alone, as the table writes it.
func TestStmtText(t *testing.T) {
	x := two(api.OpAdd, local("a"), num(1))
	for want, s := range map[string]api.Stmt{
		"x = a + 1;":                          set("x", x),
		"x = d.0;":                            get("x", "d", 0),
		"x = d.3;":                            get("x", "d", 3),
		"d.2 = a + 1;":                        put("d", 2, x),
		"r[a + 1] = 0;":                       store("r", x, num(0)),
		"r[0] = a + 1;":                       store("r", num(0), x),
		"lock r {\n\t}":                       lock("r"),
		"repeat 0 {\n\t}":                     repeat(0),
		"halt;":                               halt(),
		"lock r {\n\t\thalt;\n\t\thalt;\n\t}": lock("r", halt(), halt()),
		"repeat 20 {\n\t\trepeat 3 {\n\t\t\thalt;\n\t\t}\n\t\thalt;\n\t}": repeat(20, repeat(3, halt()), halt()),
		"if (a + 1) {\n\t}":                                                         cond(x, nil, nil),
		"if (a + 1) {\n\t\thalt;\n\t}":                                              cond(x, []api.Stmt{halt()}, nil),
		"if (a + 1) {\n\t} else {\n\t\thalt;\n\t}":                                  cond(x, nil, []api.Stmt{halt()}),
		"if (1) {\n\t\tx = 1;\n\t\thalt;\n\t} else {\n\t\tx = 2;\n\t}":              cond(num(1), []api.Stmt{set("x", num(1)), halt()}, []api.Stmt{set("x", num(2))}),
		"if (1) {\n\t} else {\n\t\tif (2) {\n\t\t} else {\n\t\t\thalt;\n\t\t}\n\t}": cond(num(1), nil, []api.Stmt{cond(num(2), nil, []api.Stmt{halt()})}),
	} {
		prints(t, with(s), "harts 1\ntask t 0 1 {\n\t"+want+"\n}\n")
		p := with(halt(), s, halt())
		p.Tasks[0].Handler, p.Tasks[0].Line = true, 4
		prints(t, p, "harts 1\nhandler t 0 1 4 {\n\thalt;\n\t"+want+"\n\thalt;\n}\n")
		inner := strings.ReplaceAll(want, "\n", "\n\t")
		prints(t, with(lock("q", s)), "harts 1\ntask t 0 1 {\n\tlock q {\n\t\t"+inner+"\n\t}\n}\n")
	}
}

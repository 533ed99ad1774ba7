package reader_test

import (
	"math/rand"
	"slices"
	"strings"
	"testing"

	"headstock/api"
	"headstock/reader"
	"headstock/token"
)

const someText = `harts 3
device u uart
device clock timer
device Pins gpio
resource r 8
resource _s 1
task main 0 1 {
	x = (1 + 2) * 3;
	y = clock.3;
	u.0 = r[x];
	lock r {
		r[7] = -y;
		lock _s { }
	}
	if (x <. 0xffffffff) { halt; } else {
		repeat 20 { x = 0; }
		halt;
	}
	if (!(x | ~y)) { }
	if (1) { } else { repeat 0 { } }
}
task idle 2 7 { }
handler tick 3 5 7 { halt; }
handler tock 0 2 0 { }
`

func some() api.Program {
	return api.Program{
		Harts:     3,
		Devices:   []api.Device{{Name: "u", Kind: api.DeviceUart}, {Name: "clock", Kind: api.DeviceTimer}, {Name: "Pins", Kind: api.DeviceGpio}},
		Resources: []api.Resource{{Name: "r", Words: 8}, {Name: "_s", Words: 1}},
		Tasks: []api.Task{
			{Name: "main", Hart: 0, Priority: 1, Body: []api.Stmt{
				set("x", two(api.OpMul, two(api.OpAdd, num(1), num(2)), num(3))),
				get("y", "clock", 3),
				put("u", 0, at("r", local("x"))),
				lock("r", store("r", num(7), one(api.OpNeg, local("y"))), lock("_s")),
				cond(two(api.OpLess, local("x"), num(4294967295)), []api.Stmt{halt()}, []api.Stmt{repeat(20, set("x", num(0))), halt()}),
				cond(one(api.OpNot, two(api.OpOr, local("x"), one(api.OpInv, local("y")))), nil, nil),
				cond(num(1), nil, []api.Stmt{repeat(0)}),
			}},
			{Name: "idle", Hart: 2, Priority: 7},
			{Name: "tick", Handler: true, Hart: 3, Priority: 5, Line: 7, Body: []api.Stmt{halt()}},
			{Name: "tock", Handler: true, Hart: 0, Priority: 2},
		},
	}
}

// Z1: the chapter's example, the document's, and a text with all that there is.
func TestExamples(t *testing.T) {
	parses(t, "harts 1 task t 0 1 { x = 1 + 2 * 3; }", with(set("x", two(api.OpAdd, num(1), two(api.OpMul, num(2), num(3))))))
	parses(t, someText, some())
	refuses(t, "harts 5", api.ErrLimit, 1)
	refuses(t, "harts 1 task t 0 1 { x = 1 }", api.ErrSyntax, 1)
	parses(t, "harts 4", api.Program{Harts: 4})
	parses(t, "harts 1 device d uart task t 0 1 { d.0 = 7; }", api.Program{
		Harts: 1, Devices: []api.Device{{Name: "d", Kind: api.DeviceUart}},
		Tasks: []api.Task{{Name: "t", Priority: 1, Body: []api.Stmt{put("d", 0, num(7))}}},
	})
}

// Z1: each statement alone, in each way in which its parts may be.
func TestStmts(t *testing.T) {
	x, y := local("x"), local("y")
	for text, want := range map[string]api.Stmt{
		"x = 1;": set("x", num(1)), "x = y;": set("x", y), "x=y;": set("x", y), "x = y[0];": set("x", at("y", num(0))), "x = (y);": set("x", y), "x = -y;": set("x", one(api.OpNeg, y)),
		"x = y - 1;": set("x", two(api.OpSub, y, num(1))), "x = y<.5;": set("x", two(api.OpLess, y, num(5))), "x = x == y;": set("x", two(api.OpEq, x, y)),
		"x = y.0;": get("x", "y", 0), "x = y.3;": get("x", "y", 3), "x=y . 0x2 ;": get("x", "y", 2), "x = x.1;": get("x", "x", 1),
		"d.0 = 1;": put("d", 0, num(1)), "d.3 = x;": put("d", 3, x), "d . 0x00000001 = x + y;": put("d", 1, two(api.OpAdd, x, y)), "d.2=y[d];": put("d", 2, at("y", local("d"))),
		"r[0] = 1;": store("r", num(0), num(1)), "r[x + 1] = r[x];": store("r", two(api.OpAdd, x, num(1)), at("r", x)), "r[(0)] = (1);": store("r", num(0), num(1)), "r[r[0]]=-1;": store("r", at("r", num(0)), one(api.OpNeg, num(1))),
		"lock r { }": lock("r"), "lock r{halt;halt;}": lock("r", halt(), halt()), "lock a { lock b { lock c { } } }": lock("a", lock("b", lock("c"))),
		"if (x) { }": cond(x, nil, nil), "if((x)){halt;}": cond(x, []api.Stmt{halt()}, nil), "if (x) { } else { }": cond(x, nil, nil), "if (x == y) { } else { halt; }": cond(two(api.OpEq, x, y), nil, []api.Stmt{halt()}), "if ((x) + (y)) { halt; } else { }": cond(two(api.OpAdd, x, y), []api.Stmt{halt()}, nil),
		"if (x) { if (y) { } else { halt; } }":    cond(x, []api.Stmt{cond(y, nil, []api.Stmt{halt()})}, nil),
		"if (x) { if (y) { } } else { halt; }":    cond(x, []api.Stmt{cond(y, nil, nil)}, []api.Stmt{halt()}),
		"if (x) { } else { if (y) { halt; } }":    cond(x, nil, []api.Stmt{cond(y, []api.Stmt{halt()}, nil)}),
		"repeat 0 { }":                            repeat(0),
		"repeat 0x14 { halt; repeat 1 { } }":      repeat(20, halt(), repeat(1)),
		"halt;":                                   halt(),
		"halt ; # nothing is behind it, { not \n": halt(),
	} {
		parses(t, in(text), with(want))
		parses(t, in("halt;"+text+"x = y.1;"), with(halt(), want, get("x", "y", 1)))
		parses(t, in("lock q { "+text+" } repeat 2 {"+text+text+"}"), with(lock("q", want), repeat(2, want, want)))
		parses(t, in("if (1) {"+text+"} else {"+text+"}"), with(cond(num(1), []api.Stmt{want}, []api.Stmt{want})))
		parses(t, "harts 2 handler h 1 7 3 {"+text+"}task t 0 1 {"+text+"}", api.Program{Harts: 2, Tasks: []api.Task{{Name: "h", Handler: true, Hart: 1, Priority: 7, Line: 3, Body: []api.Stmt{want}}, {Name: "t", Priority: 1, Body: []api.Stmt{want}}}})
	}
}

// Z2: each kind of part, and what is in it.
func TestParts(t *testing.T) {
	x, y := local("x"), local("y")
	for text, want := range map[string]api.Expr{
		"0": num(0), "4294967295": num(1<<32 - 1), "0xffffffff": num(1<<32 - 1), "0x0a": num(10), "x": x, " x\n": x, "_": local("_"), "hart": local("hart"), "(x)": x, "((((0))))": num(0),
		"x[0]": at("x", num(0)), "x [ y [ 1 ] ]": at("x", at("y", num(1))), "x[y + 1]": at("x", two(api.OpAdd, y, num(1))), "x[(y)]": at("x", y), "(x[y])": at("x", y),
		"-x": one(api.OpNeg, x), "!x": one(api.OpNot, x), "~x": one(api.OpInv, x), "- - x": one(api.OpNeg, one(api.OpNeg, x)), "--x": one(api.OpNeg, one(api.OpNeg, x)), "-!~-0": one(api.OpNeg, one(api.OpNot, one(api.OpInv, one(api.OpNeg, num(0))))),
		"-(x)": one(api.OpNeg, x), "-(x + y)": one(api.OpNeg, two(api.OpAdd, x, y)), "-x + y": two(api.OpAdd, one(api.OpNeg, x), y), "-x[y]": one(api.OpNeg, at("x", y)), "-x * y": two(api.OpMul, one(api.OpNeg, x), y), "-(x) * y": two(api.OpMul, one(api.OpNeg, x), y),
		"x - y": two(api.OpSub, x, y), "x-y": two(api.OpSub, x, y), "x - -y": two(api.OpSub, x, one(api.OpNeg, y)), "x--y": two(api.OpSub, x, one(api.OpNeg, y)), "x - - - y": two(api.OpSub, x, one(api.OpNeg, one(api.OpNeg, y))), "!x == y": two(api.OpEq, one(api.OpNot, x), y), "!(x == y)": one(api.OpNot, two(api.OpEq, x, y)), "x != !y": two(api.OpNe, x, one(api.OpNot, y)),
		"x < y": two(api.OpLt, x, y), "x <. y": two(api.OpLess, x, y), "x << y": two(api.OpShl, x, y), "x<y<.x<<y": two(api.OpLess, two(api.OpLt, x, y), two(api.OpShl, x, y)), "x >> y": two(api.OpShr, x, y),
		"(x + y) * x": two(api.OpMul, two(api.OpAdd, x, y), x), "x + (y + x)": two(api.OpAdd, x, two(api.OpAdd, y, x)), "x + y + x": two(api.OpAdd, two(api.OpAdd, x, y), x), "x + y * x": two(api.OpAdd, x, two(api.OpMul, y, x)), "x * y + x": two(api.OpAdd, two(api.OpMul, x, y), x),
	} {
		parsesExpr(t, text, want)
		parsesExpr(t, "("+text+")", want)
		parsesExpr(t, "-("+text+")", one(api.OpNeg, want))
		parsesExpr(t, "r["+text+"]", at("r", want))
		parses(t, in("r["+text+"] = "+text+"\n; d.1 = "+text+"\n; if ("+text+") { }"), with(store("r", want, want), put("d", 1, want), cond(want, nil, nil)))
	}
}

// split is the tree of parts with operators of two between, by the chapter's words: what is done last is the least level's last one.
func split(parts []api.Expr, ops []int) api.Expr {
	if len(ops) == 0 {
		return parts[0]
	}
	last := 0
	for i, op := range ops {
		if levelOf(op) <= levelOf(ops[last]) {
			last = i
		}
	}
	return two(ops[last], split(parts[:last+1], ops[:last]), split(parts[last+1:], ops[last+1:]))
}

// Z2: all operators of two, each behind each other one, three and, some of them, up to nine in a row.
func TestLevels(t *testing.T) {
	parts := []api.Expr{local("a"), num(1), at("r", num(2)), one(api.OpInv, num(3)), local("e"), one(api.OpNeg, one(api.OpNeg, local("f"))), num(6), local("h"), num(8), num(9)}
	texts := []string{"a", "1", "r[2]", "~3", "e", "--f", "6", "(h)", "8", "9"}
	holds := func(ops ...int) {
		t.Helper()
		text := texts[0]
		for i, op := range ops {
			text += " " + binary[levelOf(op)][op] + " " + texts[i+1]
		}
		want := split(parts[:len(ops)+1], ops)
		if got, err, line := reader.Expr(text); err != api.OK || line != 0 || !sameExpr(got, want) {
			t.Errorf("%q: %v %d: %v, not %v", text, err, line, got, want)
		}
	}
	for a := 1; a <= 14; a++ {
		holds(a)
		for b := 1; b <= 14; b++ {
			holds(a, b)
			for c := 1; c <= 14; c++ {
				holds(a, b, c)
			}
		}
	}
	rest := rand.New(rand.NewSource(1))
	for range 20000 {
		ops := make([]int, 4+rest.Intn(6))
		for i := range ops {
			ops[i] = 1 + rest.Intn(14)
		}
		holds(ops...)
	}
}

// scanned are a text's tokens.
func scanned(t *testing.T, s string) []api.Token {
	t.Helper()
	l, err, line := token.Scan(s)
	if err != api.OK {
		t.Fatalf("%s: %v, line %d", short(s), err, line)
	}
	return l
}

// marked has each token of a text on a line of its own, and is the line of the one that has a @ ahead: without one, that of the end.
func marked(text string) (string, int) {
	l := strings.Fields(text)
	line := len(l) + 1
	for i, x := range l {
		if rest, ok := strings.CutPrefix(x, "@"); ok {
			l[i], line = rest, i+1
		}
	}
	return strings.Join(append(l, ""), "\n"), line
}

// Z1: texts that are none, by the line of the first token that can't stand there, whatever is behind it.
func TestSyntax(t *testing.T) {
	for _, text := range []string{
		"", "harts", "@hart 1", "@1", "@task t 0 1 { }", "harts @one", "harts 1 @1", "harts @( 1 )", "harts @- 1", "harts 1 @harts 1", "harts 1 @x", "harts 1 @;", "@device d uart",
		"harts 1 device", "harts 1 device @1", "harts 1 device @uart", "harts 1 device d", "harts 1 device d @d", "harts 1 device d @harts", "harts 1 device d @1", "harts 1 device d uart @timer", "harts 1 device d uart @1", "harts 1 device d uart @d uart", "harts 1 device @halt uart", "harts 1 device d @lock",
		"harts 1 resource", "harts 1 resource @task 1", "harts 1 resource r", "harts 1 resource r @s", "harts 1 resource r 2 @2", "harts 1 resource r 1 @device d uart", "harts 1 task t 0 1 { } @device d uart", "harts 1 task t 0 1 { } @resource r 1",
		"harts 1 task", "harts 1 task @1", "harts 1 task @lock 0 1 { }", "harts 1 task t @{", "harts 1 task t 0 @{", "harts 1 task t 0 1 @2 { }", "harts 1 handler h 0 1 @{ }", "harts 1 handler h 0 1 2 @3 { }", "harts 1 task @handler t 0 1 { }", "harts 1 task t 0 1 @;", "harts 1 task t 0 1", "harts 1 task t 0 1 @}", "harts 1 task t @- 0 1 { }",
	} {
		holdsSyntax(t, text)
	}
	for _, text := range []string{
		"", "} @}", "} @;", "@;", "@{", "@1", "@else", "@task", "@(", "@-", "@handler", "@uart", "@gpio . 2", "@= 1", "@device", "@harts",
		"x", "x @;", "x @x", "x @==", "x @(", "x @- 1", "x =", "x = @;", "x = @= 1", "x = 2", "x = 2 @}", "x = 2 @3", "x = 2 @y", "x = @lock", "x = @if", "x = 2 @= 3", "x = 2 @. 3", "x = 2 @!", "x = 2 @~", "x = 2 @[",
		"x = y @z", "x = y .", "x = y . @z", "x = y . @;", "x = y . @- 1", "x = y . 2", "x = y . 2 @+ 3", "x = y . 2 @. 3", "x = y . 2 @[", "x = ( y @. 2 )", "x = - y @. 2", "x = y + z @. 2", "x = y [ 2 ] @. 3", "x = y [ z @. 2 ]", "x = @uart . 2",
		"x = @+ 2", "x = @* 2", "x = 2 +", "x = 2 + @;", "x = 2 + @* 3", "x = 2 < @. 3", "x = 2 @= = 3", "x = !", "x = ! @;", "x = ( @)", "x = ( 2", "x = ( 2 @]", "x = ( 2 @;", "x = 2 @)", "x = y [ @]", "x = y [ 2 @)", "x = y [ 2 ] @[", "x = y @( 2 )", "x = @{ }", "x = ( 2 ) @[ 2 ]", "x = ( 2 ) @( 2 )", "x = ( 2 ) @2",
		"x .", "x . @y", "x . 2 @;", "x . 2 @== 3", "x . 2 = @;", "x . 2 = y @. 3", "x . 2 @. 3", "x . @- 2", "x . @( 2 )", "x [", "x [ @]", "x [ 2 @;", "x [ 2 @) = 3", "x [ 2 ] @;", "x [ 2 ] = @;", "x [ 2 ] = y @. 3", "x [ 2 ] @[ 3 ]", "x [ 2 ] @. 3", "x [ y @. 2 ]",
		"lock", "lock @{", "lock @2", "lock @lock", "lock @timer", "lock r @;", "lock r @[ 2 ]", "lock r {", "lock r { } @else", "lock r { } @;", "lock r { } } @lock", "lock r { @task",
		"if", "if @x", "if @{ }", "if ( @)", "if ( x", "if ( x @{", "if ( x @]", "if ( x ) @;", "if ( x ) @x", "if ( x ) @else", "if ( x ) { } else", "if ( x ) { } else @if ( y ) { }", "if ( x ) { } else @;", "if ( x ) { } @; else", "if ( x ) { } else { } @else { }", "if ( x @= y )", "if ( x @. 2 )", "if ( x ) { } halt ; @else { }",
		"repeat", "repeat @{", "repeat @x", "repeat @- 2", "repeat 2 @;", "repeat @( 2 )", "repeat 2 @3", "repeat 2 { } @else", "repeat 2 {",
		"halt", "halt @}", "halt @2", "halt ; @;", "halt @. 2", "halt @= 2", "halt @{ }",
	} {
		for _, ahead := range []string{"", "halt ; ", "x = y . 1 ; lock r { } ", "lock r { ", "if ( 1 ) { ", "if ( 1 ) { } else { ", "repeat 3 { r [ 1 ] = 2 ; "} {
			// Where a block more is open, one `}` more can stand there.
			if !strings.Contains(text, "}") || strings.Count(ahead, "{") == strings.Count(ahead, "}") {
				holdsSyntax(t, "harts 1 task t 0 1 { "+ahead+text)
			}
		}
	}
}

// holdsSyntax holds that a text is none, where it is marked.
func holdsSyntax(t *testing.T, text string) {
	t.Helper()
	s, line := marked(text)
	if want := firstWrong(rules(), "program", classesOf(scanned(t, s))) + 1; line != want {
		t.Fatalf("%q: line %d by the grammar", text, want)
	}
	refuses(t, s, api.ErrSyntax, line)
	refuses(t, "\n# a comment }\n"+s, api.ErrSyntax, line+2)
	refuses(t, strings.ReplaceAll(s, "\n", " "), api.ErrSyntax, 1)
	if strings.Contains(text, "@") {
		refuses(t, s+"}\n} lock 5 halt 77\n", api.ErrSyntax, line)
	}
}

// Z2: texts that are no expression's.
func TestExprSyntax(t *testing.T) {
	of := rules()
	for _, text := range []string{
		"", "@;", "@lock", "@=", "@.", "@)", "@]", "@}", "@{ }", "@+", "@* 1", "@== 1", "-", "- @;", "- @+ 1", "- @)", "(", "( @)", "( 1", "( 1 @]", "( 1 @;", "( ( 1 )", "1 @1", "1 @x", "x @x", "x @1", "1 @;", "1 @)", "1 @]", "1 @= 1", "1 @( 1 )", "1 @[ 1 ]", "1 @!", "1 @~ 1", "1 +", "1 + @+", "1 + @;", "1 @. 1", "x @. 1", "x @.", "x [", "x [ @]", "x [ 1", "x [ 1 @)", "x [ 1 ] @[ 1 ]", "x [ 1 ] @. 1", "x [ 1 ] @x", "( 1 ) @1", "( x ) @[ 1 ]", "x @( 1 )", "@halt", "@harts 1", "x + @if", "1 @{", "x [ y @= 1 ]", "1 @=", "1 < @. 1",
	} {
		s, line := marked(text)
		if want := firstWrong(of, "alone", classesOf(scanned(t, s))) + 1; line != want {
			t.Fatalf("%q: line %d by the grammar", text, want)
		}
		refusesExpr(t, s, api.ErrSyntax, line)
		refusesExpr(t, "\n\n#\n"+s, api.ErrSyntax, line+3)
		if strings.Contains(text, "@") {
			refusesExpr(t, s+") ] 1 lock", api.ErrSyntax, line)
		}
	}
}

// eachPlace holds what is said of a text, whatever other token stands at each of its places, and whatever one more stands there, by the grammar.
func eachPlace(t *testing.T, text, thing string, read func(string) (api.Errno, int)) {
	t.Helper()
	l := strings.Fields(text)
	of := classesOf(scanned(t, text))
	s, from := newSeer(rules(), thing), 0
	holds := func(l, of []string, i int) {
		t.Helper()
		// The tokens ahead of the place i are taken already.
		wantErr, wantLine := api.OK, 0
		for k, class := range of[i:] {
			if !s.takes(class) {
				wantErr, wantLine = api.ErrSyntax, i+k+1
				break
			}
		}
		s.back(i)
		if err, line := read(strings.Join(append(slices.Clone(l), ""), "\n")); err != wantErr || line != wantLine {
			t.Errorf("%q: %v, line %d, not %v, line %d", l, err, line, wantErr, wantLine)
		}
	}
	for i := range of {
		s.back(from)
		for ; from < i; from++ {
			if !s.takes(of[from]) {
				t.Fatal(text, from)
			}
		}
		if i < len(l) {
			holds(slices.Delete(slices.Clone(l), i, i+1), slices.Delete(slices.Clone(of), i, i+1), i)
			holds(l[:i], append(slices.Clone(of[:i]), "END"), i)
		}
		for _, class := range classes {
			x := map[string]string{"NAME": "q", "NUMBER": "1"}[class]
			if x == "" {
				x = class
			}
			if class == "END" {
				continue
			}
			holds(slices.Insert(slices.Clone(l), i, x), slices.Insert(slices.Clone(of), i, class), i)
			if i < len(l) {
				other, otherOf := slices.Clone(l), slices.Clone(of)
				other[i], otherOf[i] = x, class
				holds(other, otherOf, i)
			}
		}
	}
}

func parse(s string) (api.Errno, int) {
	_, err, line := reader.Parse(s)
	return err, line
}

func parseExpr(s string) (api.Errno, int) {
	_, err, line := reader.Expr(s)
	return err, line
}

// Z1 and Z2: each token at each place of a text with all that there is.
func TestEachPlace(t *testing.T) {
	eachPlace(t, "harts 2 device d uart device e gpio resource r 1 resource s 1 task t 0 1 { x = y . 1 ; x = y ; x . 1 = r [ 1 ] ; r [ x + 1 ] = - ( y ) ; halt ; } handler h 0 1 1 { lock r { } if ( x ) { halt ; } else { } repeat 1 { x = 1 ; } }", "program", parse)
	eachPlace(t, "harts 1 task t 0 1 { if ( 1 ) { if ( 1 ) { } } }", "program", parse)
	eachPlace(t, "harts 1", "program", parse)
	eachPlace(t, "- ( x <. 1 ) * r [ ~ y ] + 1", "alone", parseExpr)
	eachPlace(t, "x", "alone", parseExpr)
}

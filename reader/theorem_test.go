package reader_test

import (
	"bytes"
	"math/rand"
	"slices"
	"strconv"
	"strings"
	"testing"

	"headstock/api"
	"headstock/reader"
	"headstock/syntax"
	"headstock/token"
)

// Z3: of a right program's text Parse tells that program, if the text is not too long; and of an expression's, Expr.
func TestThereAndBack(t *testing.T) {
	rest := rand.New(rand.NewSource(20))
	long := 0
	for range 3000 {
		p := anyProgram(rest)
		text, err := syntax.Print(p)
		if err != api.OK {
			t.Fatal(err)
		}
		if len(text) > 20000 {
			long++
			refuses(t, text, api.ErrLong, 0)
			continue
		}
		parses(t, text, p)
	}
	if long > 1000 {
		t.Error(long)
	}
	for range 30000 {
		e := anyExpr(rest, 1+rest.Intn(6))
		text, err := syntax.Expr(e)
		if err != api.OK {
			t.Fatal(err)
		}
		if got, err, line := reader.Expr(text); err != api.OK || line != 0 || !sameExpr(got, e) {
			t.Fatalf("%q: %v, line %d: %v", text, err, line, got)
		}
	}
	parses(t, someText, some())
}

// Z3: of one program all texts that are the same but for gaps, parentheses that need not be, and numbers to the base 16.
func TestGaps(t *testing.T) {
	rest := rand.New(rand.NewSource(21))
	for range 2000 {
		p := anyProgram(rest)
		w := writer{rest: rest}
		w.program(p)
		for range 2 {
			if s := w.text(rest); len(s) <= 20000 {
				parses(t, s, p)
			}
		}
		if s := strings.Join(w.l, "\n"); len(s) <= 20000 {
			parses(t, s, p)
			parses(t, s+"\n# }", p)
		}
	}
	for range 20000 {
		e := anyExpr(rest, 1+rest.Intn(5))
		w := writer{rest: rest}
		w.expr(e)
		if s := w.text(rest); len(s) <= 20000 {
			if got, err, line := reader.Expr(s); err != api.OK || line != 0 || !sameExpr(got, e) {
				t.Fatalf("%q: %v, line %d: %v", s, err, line, got)
			}
		}
	}
}

// word is a token of that class, as any that there is.
func word(rest *rand.Rand, class string) string {
	switch class {
	case "NAME":
		return []string{"x", "y", "r", "_1", "Task", "a2345678901234567890"}[rest.Intn(6)]
	case "NUMBER":
		return []string{"0", "1", "2", "3", "7", "0x08", "20", "4294967295"}[rest.Intn(8)]
	}
	return class
}

// walk is as many tokens as that, each one that can stand where it does; those that end something are taken more often.
func walk(rest *rand.Rand, thing string, most int) []string {
	s := newSeer(rules(), thing)
	var l []string
	for len(l) < most {
		i := rest.Intn(len(classes))
		if rest.Intn(4) == 0 {
			i = slices.Index(classes, []string{";", "}", ")", "]", "END", "NUMBER"}[rest.Intn(6)])
		}
		if !s.takes(classes[i]) {
			continue
		}
		if classes[i] == "END" {
			return l
		}
		l = append(l, classes[i])
	}
	return l
}

// Z1 and Z2: tokens by chance, which can stand where they do, but for some: the line is that of the first one that can't, and without one it is a program, or one beyond the limits.
func TestWalks(t *testing.T) {
	rest := rand.New(rand.NewSource(22))
	of := rules()
	found := map[api.Errno]int{}
	for i := range 10000 {
		thing, read := "program", parse
		if i%4 == 0 {
			thing, read = "alone", parseExpr
		}
		l := walk(rest, thing, 1+rest.Intn(60))
		for range rest.Intn(3) {
			if at := rest.Intn(len(l) + 1); at < len(l) {
				l[at] = classes[rest.Intn(len(classes)-1)]
			}
		}
		var text []string
		for _, class := range l {
			text = append(text, word(rest, class))
		}
		err, line := read(strings.Join(append(text, ""), "\n"))
		wrong := firstWrong(of, thing, append(l, "END"))
		switch {
		case wrong >= 0 && (err != api.ErrSyntax || line != wrong+1), wrong < 0 && (err != api.OK || line != 0) && (err != api.ErrLimit || line != 1):
			t.Errorf("%q: %v, line %d, not %d", text, err, line, wrong+1)
		}
		found[err]++
	}
	if found[api.OK] < 500 || found[api.ErrSyntax] < 500 || found[api.ErrLimit] < 200 {
		t.Error(found)
	}
}

// bare has a text's tokens, but for parentheses, for what is else without anything, and for how a number is written.
func bare(t *testing.T, s string) string {
	t.Helper()
	var l []string
	for _, x := range scanned(t, s) {
		if x.Kind == api.TokNumber {
			l = append(l, strconv.Itoa(x.N))
		} else if x.Text != "(" && x.Text != ")" {
			l = append(l, x.Text)
		}
	}
	return strings.ReplaceAll(strings.Join(l, " "), " else { }", "")
}

// Z3: what is parsed, printed and parsed again is the same; and nothing of a text is lost, or is put elsewhere.
func TestBackAndThere(t *testing.T) {
	rest := rand.New(rand.NewSource(23))
	n := 0
	for range 8000 {
		var text []string
		for _, class := range walk(rest, "program", 100) {
			// The number 1 may stand wherever one may.
			x := "1"
			if class != "NUMBER" {
				x = word(rest, class)
			}
			text = append(text, x)
		}
		s := strings.Join(text, " ")
		p, err, _ := reader.Parse(s)
		if err != api.OK {
			continue
		}
		n++
		again, err := syntax.Print(p)
		if err != api.OK {
			t.Fatal(err)
		}
		parses(t, again, p)
		if bare(t, s) != bare(t, again) {
			t.Errorf("%q: %q", s, again)
		}
	}
	if n < 300 {
		t.Error(n)
	}
}

// Z1 and Z2: what isn't scanned is told as it is there, ahead of all else.
func TestScanFirst(t *testing.T) {
	for _, x := range []struct {
		text string
		line int
	}{
		{"@", 1}, {"\n\n'", 3}, {"harts 1\n01", 2}, {"harts 5 }\n}\n\r", 3}, {"} } ]\n\n\n$", 4}, {"harts 1 task t 0 1 {\n x = 1 }\n 0X1", 3}, {"# \xff\nharts 1\n\x00", 3}, {"harts 4294967296", 1}, {"\nq23456789012345678901", 2}, {"1 1\n1a\n@", 2}, {strings.Repeat("(", 5000) + "\n\xc3\xa4", 2},
		{"", 0}, {"harts 9\n%", 0}, {"+\n?", 2},
	} {
		_, want, line := token.Scan(x.text)
		if line != x.line {
			t.Fatalf("%q: line %d", x.text, line)
		}
		if want == api.OK {
			continue
		}
		refuses(t, x.text, api.ErrToken, x.line)
		refusesExpr(t, x.text, api.ErrToken, x.line)
	}
	pad := strings.Repeat("\n", 20000)
	for _, s := range []string{pad + "\n", "harts 1" + pad, pad + "@", "@" + pad, "1" + pad, strings.Repeat("(", 20001), strings.Repeat("}", 1<<20)} {
		refuses(t, s, api.ErrLong, 0)
		refusesExpr(t, s, api.ErrLong, 0)
	}
	parses(t, "harts 1"+pad[7:], api.Program{Harts: 1})
	parses(t, pad[7:]+"harts 1", api.Program{Harts: 1})
	refuses(t, pad, api.ErrSyntax, 20001)
	refusesExpr(t, pad, api.ErrSyntax, 20001)
	refusesExpr(t, "x"+pad[2:]+"x", api.ErrSyntax, 19999)
	if e, err, line := reader.Expr(pad[1:] + "7"); err != api.OK || line != 0 || !sameExpr(e, num(7)) {
		t.Error(e, err, line)
	}
	refuses(t, strings.Repeat("(", 20000), api.ErrSyntax, 1)
	refusesExpr(t, strings.Repeat("(", 20000), api.ErrLimit, 1)
	refusesExpr(t, strings.Repeat("\n-", 10000), api.ErrLimit, 1)
}

// holdsAny is what is said of any text: it is told what it is, or why it is none, with one of the errors that there are and a line that it has; and the same each time.
func holdsAny(t *testing.T, s string) {
	t.Helper()
	p, err, line := reader.Parse(s)
	q, again, at := reader.Parse(s)
	if err != again || line != at || !syntax.Same(p, q) {
		t.Fatalf("%q: not the same", s)
	}
	e, errOf, lineOf := reader.Expr(s)
	f, againOf, atOf := reader.Expr(s)
	if errOf != againOf || lineOf != atOf || !sameExpr(e, f) {
		t.Fatalf("%q: not the same", s)
	}
	if !isToldSo(s, err, line) || !isToldSo(s, errOf, lineOf) {
		t.Fatalf("%q: %v, line %d; %v, line %d", s, err, line, errOf, lineOf)
	}
	if (err == api.OK) != syntax.Right(p) || err != api.OK && !syntax.Same(p, api.Program{}) || errOf != api.OK && !sameExpr(e, api.Expr{}) {
		t.Fatalf("%q: %v", s, p)
	}
}

// isToldSo tells whether an error and a line may be a text's at all.
func isToldSo(s string, err api.Errno, line int) bool {
	if _, scanErr, scanLine := token.Scan(s); scanErr != api.OK {
		return err == scanErr && line == scanLine
	}
	switch err {
	case api.OK:
		return line == 0
	case api.ErrLimit:
		return line == 1
	case api.ErrSyntax:
		return line >= 1 && line <= 1+strings.Count(s, "\n")
	}
	return false
}

// R1 and P4: whatever bytes there are, a call ends, and says what it is.
func TestAnyBytes(t *testing.T) {
	rest := rand.New(rand.NewSource(24))
	for range 5000 {
		s := make([]byte, rest.Intn(30))
		rest.Read(s)
		holdsAny(t, string(s))
	}
	for range 10000 {
		s := []byte(someText)
		for range 1 + rest.Intn(3) {
			at := rest.Intn(len(s))
			switch rest.Intn(4) {
			case 0:
				s[at] = byte(rest.Intn(256))
			case 1:
				s = slices.Delete(s, at, min(len(s), at+1+rest.Intn(9)))
			case 2:
				s = slices.Insert(s, at, []byte("(){}[];.= +-\n#0x1ab")[rest.Intn(19)])
			default:
				from := rest.Intn(len(s))
				s = slices.Insert(s, at, bytes.Clone(s[from:min(len(s), from+rest.Intn(40))])...)
			}
			if len(s) == 0 {
				s = []byte(" ")
			}
		}
		holdsAny(t, string(s))
	}
	for range 5000 {
		var l []string
		for range rest.Intn(40) {
			l = append(l, word(rest, classes[rest.Intn(len(classes)-1)]))
		}
		holdsAny(t, strings.Join(l, " "))
	}
	for i := range someText {
		holdsAny(t, someText[:i])
		holdsAny(t, someText[i:])
	}
}

// R3: who owns an answer may write into its lists and grow them, and no other one is changed.
func TestMemory(t *testing.T) {
	parsed := func() api.Program {
		p, err, line := reader.Parse(someText)
		if err != api.OK || line != 0 {
			t.Fatal(err, line)
		}
		return p
	}
	p, q := parsed(), parsed()
	for i := range p.Tasks {
		p.Tasks[i] = api.Task{}
	}
	clear(p.Devices)
	clear(p.Resources)
	p.Devices = append(p.Devices, make([]api.Device, 9)...)
	p.Resources = append(p.Resources, make([]api.Resource, 9)...)
	p.Tasks = append(p.Tasks, make([]api.Task, 17)...)
	if !syntax.Same(q, some()) || !syntax.Same(parsed(), some()) {
		t.Error("changed")
	}
	// What stands in the room behind one list is in no other one.
	for range 20 {
		q.Devices = append(q.Devices[:3], api.Device{Name: "other"})
		q.Resources = append(q.Resources[:2], api.Resource{Name: "other"})
		q.Tasks = append(q.Tasks[:4], api.Task{Name: "other"})
		q.Devices, q.Resources, q.Tasks = q.Devices[:3], q.Resources[:2], q.Tasks[:4]
	}
	if !syntax.Same(q, some()) {
		t.Error("changed")
	}
}

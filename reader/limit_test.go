package reader_test

import (
	"math/rand"
	"strconv"
	"strings"
	"testing"

	"headstock/api"
)

// Z1: each number at the edges of what it may be; with a token behind that can't stand there the error is another one.
func TestNumbers(t *testing.T) {
	for text, edges := range map[string][2]int{
		"harts N": {1, 4}, "harts N task t 0 1 { halt; }": {1, 4},
		"harts 1 resource r N": {1, 8}, "harts 1 resource q 8 resource r N resource s 1": {1, 8},
		"harts 1 task t N 1 { }": {0, 3}, "harts 1 task t 0 N { }": {1, 7}, "harts 1 handler t N 1 0 { }": {0, 3}, "harts 1 handler t 0 N 0 { }": {1, 7}, "harts 1 handler t 0 1 N { }": {0, 7},
		in("x = d.N;"): {0, 3}, in("d.N = 1;"): {0, 3}, in("repeat N { }"): {0, 20}, in("lock r { if (1) { } else { repeat N { } } }"): {0, 20}, in("if (1) { x = d.N; }"): {0, 3},
		in("x = N;"): {0, 1<<32 - 1}, in("r[N] = N;"): {0, 1<<32 - 1}, in("if (N) { }"): {0, 1<<32 - 1}, in("d.0 = N + N;"): {0, 1<<32 - 1},
	} {
		for _, n := range []int{0, 1, 2, 3, 4, 5, 7, 8, 9, 16, 20, 21, 255, 1<<31 - 1, 1 << 31, 1<<32 - 1} {
			for _, s := range []string{strconv.Itoa(n), "0x" + strconv.FormatInt(int64(n), 16)} {
				s = strings.ReplaceAll(text, "N", s)
				want, line := api.OK, 0
				if n < edges[0] || n > edges[1] {
					want, line = api.ErrLimit, 1
				}
				for _, s := range []string{s, "\n\n" + s + "\n"} {
					if err, atLine := parse(s); err != want || atLine != line {
						t.Errorf("%q: %v, line %d, not %v, line %d", s, err, atLine, want, line)
					}
				}
				refuses(t, s+"\n;", api.ErrSyntax, 2)
				refuses(t, "\n\n"+s+"\n1", api.ErrSyntax, 4)
			}
		}
	}
}

// Z1: as many devices, resources and tasks as there may be, and one more; names as long as they may be.
func TestMany(t *testing.T) {
	for part, most := range map[string]int{"device d uart ": 8, "resource r 1 ": 8, "task t 0 1 { } ": 16, "handler h 0 1 0 { halt; } ": 16, in("halt; ")[len("harts 1 "):] + " ": 16} {
		for n := range 40 {
			s := "harts 1\n" + strings.Repeat(part, n)
			if n <= most {
				if err, line := parse(s); err != api.OK || line != 0 {
					t.Errorf("%d of %q: %v, line %d", n, part, err, line)
				}
			} else {
				refuses(t, s, api.ErrLimit, 1)
			}
			refuses(t, s+"\n\n}", api.ErrSyntax, 4)
		}
	}
	all := strings.Repeat("device d gpio ", 8) + strings.Repeat("resource r 8 ", 8) + strings.Repeat("handler h 3 7 7 { } ", 16)
	if err, line := parse("harts 4 " + all); err != api.OK || line != 0 {
		t.Error(err, line)
	}
	long := strings.Repeat("q", 20)
	parses(t, in(long+" = "+long+"."+"3;"), with(get(long, long, 3)))
	refuses(t, "\n"+in(long+"q = 1;"), api.ErrToken, 2)
}

// nest is an expression's or a statement's text in n others, each between the two texts.
func nest(n int, open, inner, end string) string {
	return strings.Repeat(open, n) + inner + strings.Repeat(end, n)
}

// Z1 and Z2: trees that are 29 to 31 deep, and far deeper ones that are not too deep to be read.
func TestDeepTrees(t *testing.T) {
	for _, deep := range []int{1, 2, 29, 30, 31, 32, 100, 333, 900} {
		want, line := api.OK, 0
		if deep > 30 {
			want, line = api.ErrLimit, 1
		}
		for _, e := range []string{nest(deep-1, "-", "1", ""), nest(deep-1, "r[", "x", "]"), nest(deep-1, "1 + (", "x", ")"), nest(deep-1, "", "1", " + 1"), "(" + nest(deep-1, "", "1", " * 1") + ")"} {
			if err, atLine := parseExpr("\n" + e); err != want || atLine != line {
				t.Errorf("%d deep: %v, line %d: %s", deep, err, atLine, short(e))
			}
			for _, s := range []string{"x = E;", "d.1 = E;", "r[E] = 1;", "r[1] = E;", "if (E) { }", "repeat 1 { lock r { x = E; } }", "if (1) { } else { x = E; }"} {
				s = in(strings.ReplaceAll(s, "E", e))
				if err, atLine := parse("\n" + s); err != want || atLine != line {
					t.Errorf("%d deep: %v, line %d: %s", deep, err, atLine, short(s))
				}
				refuses(t, s+"\n=", api.ErrSyntax, 2)
			}
			refusesExpr(t, e+"\n=", api.ErrSyntax, 2)
		}
		for _, inner := range []string{"halt;", "x = d.1;", "lock r { }", "x = " + nest(29, "!", "1", "") + ";"} {
			for _, s := range []string{nest(deep-1, "lock r {", inner, "}"), nest(deep-1, "repeat 2 {", inner, "}"), nest(deep-1, "if (1) {", inner, "}"), nest(deep-1, "if (1) { } else {", inner, "}"), nest(deep-1, "if (1){", inner, "}else{halt;}")} {
				s = in("x = 1; " + s + " halt;")
				if err, atLine := parse("\n" + s); err != want || atLine != line {
					t.Errorf("%d deep: %v, line %d: %s", deep, err, atLine, short(s))
				}
				refuses(t, s+"\n=", api.ErrSyntax, 2)
			}
		}
	}
}

// about are texts that may stand about a part, which is so many parts further down.
var about = []struct {
	open, end string
	down      int
}{{"(", ")", 1}, {"-", "", 1}, {"!", "", 1}, {"~", "", 1}, {"r[", "]", 1}, {"-(", ")", 2}, {"(-", ")", 2}, {"(r[", "])", 2}, {"-r[", "]", 2}, {"1 + (", ") * 2", 1}, {"x<.r[", "]<<1", 1}, {"((1) + (", "))", 2}, {"(-1 - -", ")", 2}}

// aboutBlocks are texts that may stand about a block's statements, which are so many blocks further down.
var aboutBlocks = []struct {
	open, end string
	down      int
}{{"lock r {", "}", 1}, {"repeat 1 {", "}", 1}, {"if (1) {", "}", 1}, {"if(1){}else{", "}", 1}, {"halt;if(1){", "}", 1}, {"if(1){}else{lock r{", "}}", 2}}

// timesAbout are how often what goes so many down stands about something: not at all, and about what is as deep as may be.
func timesAbout(down int) []int {
	l := []int{0, 1, 2, 250}
	for n := 1000/down - 2; n <= 1000/down+2; n++ {
		l = append(l, n)
	}
	return l
}

// orTooDeep is what is told of a token that can't stand there, behind what is so deep.
func orTooDeep(deep, line int) (api.Errno, int) {
	if deep > 1000 {
		return api.ErrLimit, 1
	}
	return api.ErrSyntax, line
}

// wrongParts are what no part begins with, or what can't stand behind one.
var wrongParts = []string{"", ";", "+", "]", "lock", "1 1", "x . 1", "{", "\nx )]"}

// wrongLine is the line of the first wrong token of one of these texts, in the line that it begins in.
func wrongLine(text string, line int) int { return line + strings.Count(text, "\n") }

// Z2: how deep parts may be in an expression.
func TestDeepestExpr(t *testing.T) {
	for _, x := range about {
		for _, n := range timesAbout(x.down) {
			deep := 1 + n*x.down
			begin, end := strings.Repeat(x.open, n), strings.Repeat(x.end, n)
			for _, text := range wrongParts {
				err, line := orTooDeep(deep, wrongLine(text, 2))
				refusesExpr(t, "\n"+begin+text, err, line)
			}
			// What can't stand there is ahead of what is too deep.
			refusesExpr(t, "1\n="+begin+"1"+end, api.ErrSyntax, 2)
			refusesExpr(t, "=\n"+begin+"1"+end, api.ErrSyntax, 1)
			err, line := orTooDeep(deep, 2)
			refusesExpr(t, begin+"1"+end+"\n=", err, line)
			refusesExpr(t, "(1) + "+begin+"1"+end+"\n)", err, line)
			if twice := begin + "1" + end + "+" + begin + "1" + end + "\n1"; len(twice) <= api.MaxSource {
				refusesExpr(t, twice, err, line)
			}
			whole(t, begin+"1"+end, deep, n, x.open)
		}
	}
}

// whole holds what is told of n texts about a part, whose trees are deep, but of parentheses, which are not in them.
func whole(t *testing.T, text string, deep, n int, open string) {
	t.Helper()
	if n > 2 && (deep > 1000 || open != "(") {
		refusesExpr(t, "\n"+text, api.ErrLimit, 1)
	} else if err, line := parseExpr(text); err != api.OK || line != 0 {
		t.Errorf("%v, line %d: %s", err, line, short(text))
	}
}

// Z1: how deep parts may be in a statement: its own ones are as deep as its block, those in its parentheses or brackets one deeper, and those within these go on from there.
func TestDeepestParts(t *testing.T) {
	for _, s := range []struct {
		open, end string
		down      int
	}{{"x = ", ";", 0}, {"d.1 = ", ";", 0}, {"r[", "] = 1;", 1}, {"r[1] = ", ";", 0}, {"if (", ") { }", 1}, {"halt; lock r { } x = y.1; x = -1 + ", ";", 0}, {"r[(1)] = 1 + -1 * ", ";", 0}, {"if (1) { } r[1 + -1 * ", "] = 1;", 1}, {"r[1] = 1; if ((1) - ", ") { }", 1}} {
		for _, x := range about {
			for _, blocks := range []int{1, 700} {
				for _, most := range []int{999, 1000, 1001} {
					n := (most - blocks - s.down) / x.down
					deep := blocks + s.down + n*x.down
					ahead := "harts 1 task t 0 1 {" + strings.Repeat("lock r{", blocks-1)
					begin := "\n" + s.open + strings.Repeat(x.open, n)
					for _, text := range wrongParts[:4] {
						err, line := orTooDeep(deep, 2)
						refuses(t, ahead+begin+text, err, line)
					}
					refuses(t, ahead+";"+begin, api.ErrSyntax, 1)
					part := begin + "1" + strings.Repeat(x.end, n) + s.end
					err, line := orTooDeep(deep, 3)
					refuses(t, ahead+part+"\n=", err, line)
					refuses(t, ahead+"x = (((1)));"+part+"r[-(1)] = -1; lock r { if (2) { } halt; }\n=", err, line)
					text := ahead + part + strings.Repeat("}", blocks)
					if deep > 1000 || x.open != "(" || blocks > 30 {
						refuses(t, "\n"+text, api.ErrLimit, 1)
					} else if err, line := parse(text); err != api.OK || line != 0 {
						t.Errorf("%v, line %d: %s", err, line, short(text))
					}
				}
			}
		}
	}
}

// further are texts that go so many parts or blocks further down than the block that they stand in.
var further = [][]string{
	{"", "\n;", "{", "x", "\nx = 1", "x = 1;\n1", "x = y.1 +", "x = y.\n-", "d.1 = 1;\n\n=", "lock r\n;", "repeat 1", "halt; } {", "\n\nlock", "if", "\nif x", "r", "\nr 1"},
	{"x = (", "x = -", "x = 1 + !", "x = r[", "d.1 = (;", "if (", "if (\n)", "if (1)", "if (1) ;", "if (1\n{", "if (1) { } else", "if (1 +", "r[", "\nr[]", "r[1", "r[\n1;", "r[1] = 1; r[1", "r[1] = ~;", "r[1] = r[\n;", "lock r {", "repeat 2 { 1", "if (1) { else", "x = 1; if (1) {"},
	{"r[(", "r[1 - -", "r[\n-", "r[r[", "if ((", "if (r[", "if (1 + -", "if (\n1 * (;", "lock r { if (", "if (1) { x = (", "repeat 1 { r[\n"},
}

// Z1: how deep blocks may be: a block counts once it is begun, and what is in its statements themselves is as deep as it.
func TestDeepestBlocks(t *testing.T) {
	for _, x := range aboutBlocks {
		for _, n := range timesAbout(x.down) {
			deep := 1 + n*x.down
			ahead := "harts 1 task t 0 1 {" + strings.Repeat(x.open, n)
			for down, texts := range further {
				for _, text := range texts {
					err, line := orTooDeep(deep+down, wrongLine(text, 1))
					refuses(t, ahead+text, err, line)
				}
			}
			all := ahead + strings.Repeat(x.end, n) + "}"
			err, line := orTooDeep(deep, 2)
			refuses(t, ahead+"x = 1; d.1 = 1;"+strings.Repeat(x.end, n)+"}\n}", err, line)
			refuses(t, "harts 1 task t 0 1 {\n;"+all, api.ErrSyntax, 2)
			// What is behind is not deeper for what was ahead.
			refuses(t, all+" task t 0 1 { x = (1); lock r { if (-1) { } } }\n}", err, line)
			if n > 30 {
				refuses(t, "\n"+all, api.ErrLimit, 1)
			}
			// A block that is not begun does not count.
			if cut, ok := strings.CutSuffix(ahead, "{"); ok && n > 0 && strings.Count(x.open, "{") == x.down {
				inner := deep - 1
				if strings.Contains(x.open, "if") {
					inner = deep
				}
				err, line := orTooDeep(inner, 2)
				refuses(t, cut+"\n;", err, line)
				refuses(t, cut+"\n", err, line)
			}
		}
	}
}

// Z1: blocks and parts in one another, in any order, by how deep the grammar's tokens are.
func TestDeepestMixed(t *testing.T) {
	rest := rand.New(rand.NewSource(25))
	statements := []string{"x = ", "d.1 = ", "r[", "r[1] = ", "if (", "x = -1 * "}
	found := map[api.Errno]int{}
	for range 600 {
		most := 985 + rest.Intn(30)
		text, deep := "harts 1 task t 0 1 {", 1
		for blocks := rest.Intn(most); deep < blocks; {
			x := aboutBlocks[rest.Intn(len(aboutBlocks))]
			text, deep = text+x.open, deep+x.down
		}
		if text += "\n"; rest.Intn(5) > 0 {
			text += statements[rest.Intn(len(statements))]
			for deep < most {
				x := about[rest.Intn(len(about))]
				text, deep = text+x.open, deep+x.down
			}
			// A part behind an operator of two is not within the one ahead of it: so far down it is not yet.
			l := classesOf(scanned(t, text))
			text += strings.Repeat("(", max(0, most-deepestOf(l[:len(l)-1], 0)))
		}
		if len(text)+9 > api.MaxSource {
			continue
		}
		l := classesOf(scanned(t, text))
		want, line := orTooDeep(deepestOf(l[:len(l)-1], 0), 2)
		refuses(t, text, want, line)
		refuses(t, text+" ; 1", want, line)
		found[want]++
	}
	if found[api.ErrLimit] < 100 || found[api.ErrSyntax] < 100 {
		t.Error(found)
	}
}

package token_test

import (
	"slices"
	"strconv"
	"strings"
	"testing"

	"headstock/api"
	"headstock/token"
)

const letters = "abcdefghijklmnopqrstuvwxyzABCDEFGHIJKLMNOPQRSTUVWXYZ_"

const digits = "0123456789"

var words = strings.Fields("harts device uart timer gpio resource task handler lock if else repeat halt")

var signs = strings.Fields("== != << >> <. + - * / % & | ^ < = ! ~ ( ) { } [ ] ; .")

// is holds what all three say of one text: that it is a word, a name, or a number, or none of these.
func is(t *testing.T, s string, kind, n int) {
	t.Helper()
	if token.Word(s) != (kind == api.TokWord) {
		t.Errorf("Word(%.60q): %t", s, token.Word(s))
	}
	if token.Name(s) != (kind == api.TokName) {
		t.Errorf("Name(%.60q): %t", s, token.Name(s))
	}
	if got, ok := token.Number(s); got != n || ok != (kind == api.TokNumber) {
		t.Errorf("Number(%.60q): %d, %t", s, got, ok)
	}
}

// T1: the language's own words, and what is near to them.
func TestWord(t *testing.T) {
	if len(words) != 13 {
		t.Fatal(len(words))
	}
	for _, s := range words {
		is(t, s, api.TokWord, 0)
		for i := range s {
			cut := s[:i]
			if i > 0 {
				is(t, cut, api.TokName, 0)
			}
			is(t, cut+strings.ToUpper(s[i:i+1])+s[i+1:], api.TokName, 0)
			is(t, cut+"_"+s[i:], api.TokName, 0)
			is(t, cut+" "+s[i:], 0, 0)
			is(t, cut+"\x00"+s[i:], 0, 0)
		}
		for _, more := range []string{"s", "_", "0", "X"} {
			is(t, s+more, api.TokName, 0)
		}
		for _, more := range []string{" ", "\n", "\x00", ";", "\xff"} {
			is(t, s+more, 0, 0)
			is(t, more+s, 0, 0)
		}
		is(t, "0"+s, 0, 0)
	}
	for _, s := range words {
		for _, other := range words {
			is(t, s+other, api.TokName, 0)
		}
	}
	for _, s := range []string{"hart", "int", "priority", "line", "end", "true", "while", "for", "program", "Task", "IF", "elseif"} {
		is(t, s, api.TokName, 0)
	}
}

// T1: each byte, as a name's first one, as another one, and as its last one.
func TestNameBytes(t *testing.T) {
	for b := range 256 {
		c := string([]byte{byte(b)})
		letter, digit := strings.Contains(letters, c), strings.Contains(digits, c)
		for s, want := range map[string]bool{c: letter, c + "q": letter, c + "9": letter, "q" + c: letter || digit, "q" + c + "q": letter || digit, "_9" + c: letter || digit, c + strings.Repeat("q", 19): letter, strings.Repeat("q", 19) + c: letter || digit} {
			if token.Name(s) != want {
				t.Errorf("%q: %t", s, !want)
			}
		}
	}
}

// T1: how long a name may be.
func TestNameLength(t *testing.T) {
	for n := range 100 {
		for _, c := range []string{"q", "_", "Z", "b1"} {
			s := strings.Repeat(c, n)[:n]
			if token.Name(s) != (n >= 1 && n <= 20) {
				t.Errorf("%q", s)
			}
		}
	}
	for _, s := range []string{"", strings.Repeat("q", 1<<20), strings.Repeat("ä", 10), strings.Repeat("q", 18) + "ä", "task" + strings.Repeat("q", 17)} {
		is(t, s, 0, 0)
	}
	is(t, "task"+strings.Repeat("q", 16), api.TokName, 0)
}

// T1: numbers, at each edge, and what is none.
func TestNumber(t *testing.T) {
	for s, want := range map[string]int{
		"0": 0, "1": 1, "9": 9, "10": 10, "100": 100, "1000000000": 1000000000, "2147483647": 1<<31 - 1, "2147483648": 1 << 31, "4294967294": 1<<32 - 2, "4294967295": 1<<32 - 1,
		"0x0": 0, "0x00000000": 0, "0x1": 1, "0x01": 1, "0x00000001": 1, "0x9": 9, "0xa": 10, "0xf": 15, "0x10": 16, "0x1f": 31, "0x0f": 15, "0xabcdef": 0xabcdef, "0x7fffffff": 1<<31 - 1, "0x80000000": 1 << 31, "0xffffffff": 1<<32 - 1, "0x12345678": 0x12345678, "0x90abcdef": 0x90abcdef,
	} {
		is(t, s, api.TokNumber, want)
	}
	for _, s := range []string{
		"", "00", "01", "007", "0000000000", "0000000001", "00x1", "4294967296", "4294967300", "5000000000", "9999999999", "10000000000", "04294967295", "42949672950", "18446744073709551616", "18446744073709551617", strings.Repeat("9", 1<<20), strings.Repeat("0", 1<<20),
		"0x", "0x000000000", "0x000000001", "0x100000000", "0xfffffffff", "0x10000000000000000", "0xA", "0xF", "0x1F", "0xg", "0x1g", "0x_1", "0x1_0", "0x ", "0x 1", "0x-1", "0x+1", "0x0x1", "0x1x", "1x1", "10x1", "0b1", "0o7", "0X1", "0X", "0x" + strings.Repeat("0", 1<<20),
		"1_000", "_1 ", " 1", "1 ", "+1", "-1", "-0", "1.0", "1e3", "1a", "a1 ", "12q", "1\n", "1\x00", "\x001", "٣", "1\xff", "0x1\xff", "0x\xff",
	} {
		is(t, s, 0, 0)
	}
	is(t, "x1", api.TokName, 0)
	is(t, "x", api.TokName, 0)
	is(t, "a", api.TokName, 0)
	is(t, "_1", api.TokName, 0)
}

// T1: each number up to some hundred thousand, and each one of one bit, or of one less, to both bases.
func TestNumberAll(t *testing.T) {
	holds := func(n int) {
		for _, s := range []string{strconv.Itoa(n), "0x" + strconv.FormatInt(int64(n), 16)} {
			if got, ok := token.Number(s); got != n || !ok {
				t.Errorf("%q: %d, %t", s, got, ok)
			}
		}
	}
	for n := range 200000 {
		holds(n)
		holds(1<<32 - 1 - n)
	}
	for i := range 33 {
		for by := -3; by <= 3; by++ {
			n := 1<<i + by
			if n >= 0 && n < 1<<32 {
				holds(n)
			} else if got, ok := token.Number(strconv.Itoa(n)); got != 0 || ok {
				t.Error(n, got, ok)
			}
		}
	}
}

// T1: each byte at each place of a number is a digit, or the text is none.
func TestNumberBytes(t *testing.T) {
	for b := range 256 {
		c := string([]byte{byte(b)})
		for i := range 3 {
			s := "777"[:i] + c + "777"[i:]
			if _, ok := token.Number(s); ok != (strings.Contains(digits, c) && s[0] != '0') {
				t.Errorf("%q: %t", s, ok)
			}
			s = "0x" + s
			if _, ok := token.Number(s); ok != strings.Contains("0123456789abcdef", c) {
				t.Errorf("%q: %t", s, ok)
			}
		}
	}
}

// tok is a token, in short.
func tok(kind int, text string, n, line int) api.Token {
	return api.Token{Kind: kind, Text: text, N: n, Line: line}
}

func name(s string, line int) api.Token      { return tok(api.TokName, s, 0, line) }
func word(s string, line int) api.Token      { return tok(api.TokWord, s, 0, line) }
func sign(s string, line int) api.Token      { return tok(api.TokSign, s, 0, line) }
func number(s string, n, line int) api.Token { return tok(api.TokNumber, s, n, line) }
func end(line int) api.Token                 { return tok(api.TokEnd, "", 0, line) }

// scansTo holds what Scan says of a text that it scans.
func scansTo(t *testing.T, s string, l ...api.Token) {
	t.Helper()
	got, err, line := token.Scan(s)
	if err != api.OK || line != 0 || !slices.Equal(got, l) {
		t.Errorf("%.200q: %v %v %d, not %v", s, got, err, line, l)
	}
}

// refuses holds what Scan says of a text that it does not scan.
func refuses(t *testing.T, s string, want api.Errno, line int) {
	t.Helper()
	got, err, at := token.Scan(s)
	if err != want || at != line || len(got) > 0 {
		t.Errorf("%.200q: %.5v %v line %d, not %v line %d", s, got, err, at, want, line)
	}
}

// T2: the chapter's example, and all kinds on several lines.
func TestScanExamples(t *testing.T) {
	scansTo(t, "lock S { S[0] = 0x1f; }", word("lock", 1), name("S", 1), sign("{", 1), name("S", 1), sign("[", 1), number("0", 0, 1), sign("]", 1), sign("=", 1), number("0x1f", 31, 1), sign(";", 1), sign("}", 1), end(1))
	scansTo(t, "# a program\nharts 2\n\n\tdevice d uart # its text\ntask t 0 1 {\n x=-4294967295<<.y;\n}\n",
		word("harts", 2), number("2", 2, 2),
		word("device", 4), name("d", 4), word("uart", 4),
		word("task", 5), name("t", 5), number("0", 0, 5), number("1", 1, 5), sign("{", 5),
		name("x", 6), sign("=", 6), sign("-", 6), number("4294967295", 1<<32-1, 6), sign("<<", 6), sign(".", 6), name("y", 6), sign(";", 6),
		sign("}", 7), end(8))
}

// T2: what is passed over, and how lines are counted.
func TestScanGaps(t *testing.T) {
	for s, line := range map[string]int{"": 1, " ": 1, "\t": 1, "\n": 2, " \t\n\t \n": 3, "#": 1, "##": 1, "#\n": 2, "#\n#": 2, "\n#\n\n#x\n": 5, "# x = 1; $ \" \\ \r \x00 \xff ä": 1, "# lock\n": 2, "#\r\n#": 2, strings.Repeat("\n", 20000): 20001, strings.Repeat("#", 20000): 1, strings.Repeat("#\n", 10000): 10001} {
		scansTo(t, s, end(line))
	}
	scansTo(t, "a#b\nc", name("a", 1), name("c", 2), end(2))
	scansTo(t, "a#b", name("a", 1), end(1))
	scansTo(t, "a\n\n\n", name("a", 1), end(4))
	scansTo(t, "\n\n\na", name("a", 4), end(4))
	scansTo(t, "1#\n#\n\t2 #", number("1", 1, 1), number("2", 2, 3), end(3))
	scansTo(t, "=#=\n=", sign("=", 1), sign("=", 2), end(2))
	scansTo(t, "/* x */", sign("/", 1), sign("*", 1), name("x", 1), sign("*", 1), sign("/", 1), end(1))
	scansTo(t, "//x", sign("/", 1), sign("/", 1), name("x", 1), end(1))
}

// T2: letters and digits go as far as they go.
func TestScanRuns(t *testing.T) {
	for _, s := range words {
		scansTo(t, s, word(s, 1), end(1))
		scansTo(t, s+"_", name(s+"_", 1), end(1))
		scansTo(t, s+"1", name(s+"1", 1), end(1))
		scansTo(t, s+"."+s, word(s, 1), sign(".", 1), word(s, 1), end(1))
		refuses(t, "1"+s, api.ErrToken, 1)
	}
	scansTo(t, "ifelse", name("ifelse", 1), end(1))
	scansTo(t, "if else", word("if", 1), word("else", 1), end(1))
	scansTo(t, "_", name("_", 1), end(1))
	scansTo(t, "_0x1", name("_0x1", 1), end(1))
	scansTo(t, "x.1.2", name("x", 1), sign(".", 1), number("1", 1, 1), sign(".", 1), number("2", 2, 1), end(1))
	scansTo(t, "0x00000010", number("0x00000010", 16, 1), end(1))
	scansTo(t, "0", number("0", 0, 1), end(1))
	scansTo(t, strings.Repeat("q", 20), name(strings.Repeat("q", 20), 1), end(1))
	for _, s := range []string{"1x", "00", "01", "0x", "0xG", "0xA", "0X1", "1_", "4294967296", "0x100000000", "12345678901", "9lock", strings.Repeat("q", 21), strings.Repeat("1", 40), strings.Repeat("q", 20000)} {
		refuses(t, s, api.ErrToken, 1)
		if len(s) < 100 {
			refuses(t, "a\n#\n = "+s+" \n;", api.ErrToken, 3)
			refuses(t, "\n("+s+")", api.ErrToken, 2)
			refuses(t, s+"\n"+s, api.ErrToken, 1)
			refuses(t, "a\n"+s+"\n$", api.ErrToken, 2)
		}
	}
}

// T2: signs, alone and behind one another.
func TestScanSigns(t *testing.T) {
	if len(signs) != 25 {
		t.Fatal(len(signs))
	}
	for _, s := range signs {
		scansTo(t, s, sign(s, 1), end(1))
		scansTo(t, "a"+s+"1", name("a", 1), sign(s, 1), number("1", 1, 1), end(1))
		for _, other := range signs {
			scansTo(t, s+" "+other, sign(s, 1), sign(other, 1), end(1))
			scansTo(t, s+"\n"+other, sign(s, 1), sign(other, 2), end(2))
		}
	}
	for s, l := range map[string]string{"===": "== =", "====": "== ==", "=!=": "= !=", "!==": "!= =", "!!": "! !", "<<<": "<< <", "<<.": "<< .", "<<<.": "<< <.", "<..": "<. .", "<=": "< =", "<==": "< ==", ">>=": ">> =", ">>>>": ">> >>", "<>>": "< >>", "--": "- -", "&&": "& &", "||": "| |", "~~": "~ ~", "=<": "= <", "=.": "= .", ".<": ". <", "){": ") {", "];": "] ;"} {
		var all []api.Token
		for x := range strings.FieldsSeq(l) {
			all = append(all, sign(x, 1))
		}
		scansTo(t, s, append(all, end(1))...)
	}
	for _, s := range []string{">", ">=", "> >", ">>>", "<<>", "a>b", "=>", "x\n>", "\n\n>>\n>>>"} {
		refuses(t, s, api.ErrToken, 1+strings.Count(s, "\n"))
	}
}

// T2: each byte alone, and between others.
func TestScanBytes(t *testing.T) {
	for b := range 256 {
		c := string([]byte{byte(b)})
		switch {
		case c == "\n":
			scansTo(t, c, end(2))
		case strings.Contains(" \t#", c):
			scansTo(t, c, end(1))
		case strings.Contains(letters, c):
			scansTo(t, c, name(c, 1), end(1))
		case strings.Contains(digits, c):
			scansTo(t, c, number(c, b-'0', 1), end(1))
		case slices.Contains(signs, c):
			scansTo(t, c, sign(c, 1), end(1))
		default:
			refuses(t, c, api.ErrToken, 1)
			refuses(t, "a\n b"+c+"\n\n"+c, api.ErrToken, 2)
			refuses(t, "\n\n\n"+c, api.ErrToken, 4)
			scansTo(t, "a #"+c+"\nb", name("a", 1), name("b", 2), end(2))
		}
	}
}

// T2: so many bytes, and one more, whatever they are.
func TestScanLong(t *testing.T) {
	for _, c := range []string{" ", "\n", "#", "$", "\xff", "a", "1", ";", "harts ", "0x1f\n", "#$\n"} {
		s := strings.Repeat(c, 20001)
		refuses(t, s[:20001], api.ErrLong, 0)
		refuses(t, s, api.ErrLong, 0)
		if _, err, _ := token.Scan(s[:20000]); err == api.ErrLong {
			t.Errorf("%q", c)
		}
	}
	refuses(t, strings.Repeat(";", 20000)+" ", api.ErrLong, 0)
	refuses(t, strings.Repeat("ä", 10000), api.ErrToken, 1)
	refuses(t, strings.Repeat("ä", 10000)+" ", api.ErrLong, 0)
	got, err, line := token.Scan(strings.Repeat(";", 19999) + "\n")
	if len(got) != 20000 || err != api.OK || line != 0 || got[19998] != sign(";", 1) || got[19999] != end(2) {
		t.Error(len(got), err, line)
	}
	refuses(t, strings.Repeat("\n", 19999)+"$", api.ErrToken, 20000)
}

// R3: who owns an answer may write into it and grow it, and no other one is changed by that.
func TestScanOwn(t *testing.T) {
	const s = "harts 1 device d uart"
	want := []api.Token{word("harts", 1), number("1", 1, 1), word("device", 1), name("d", 1), word("uart", 1), end(1)}
	first, _, _ := token.Scan(s)
	second, _, _ := token.Scan(s)
	for i := range first[:cap(first)] {
		first[:cap(first)][i] = sign("?", 77)
	}
	_ = append(first[:0], second[3:]...)
	if !slices.Equal(second, want) {
		t.Error(second)
	}
	scansTo(t, s, want...)
}

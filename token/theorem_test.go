package token_test

import (
	"math/rand"
	"regexp"
	"slices"
	"strconv"
	"strings"
	"testing"

	"headstock/api"
	"headstock/token"
)

var (
	gapLook    = regexp.MustCompile(`\A(?:[ \t\n]|#[^\n]*)`)
	runLook    = regexp.MustCompile(`\A[a-zA-Z_0-9]+`)
	signLook   = regexp.MustCompile(`\A(?:==|!=|<<|>>|<\.|[-+*/%&|^<=!~(){}\[\];.])`)
	nameLook   = regexp.MustCompile(`\A[a-zA-Z_][a-zA-Z_0-9]{0,19}\z`)
	numberLook = regexp.MustCompile(`\A(?:0|[1-9][0-9]{0,9}|0x[0-9a-f]{1,8})\z`)
)

// scanned is what the chapter says of a text that is not too long, by looking for what its words describe; a line of 0 tells that nothing is wrong.
func scanned(s string) ([]api.Token, int) {
	var l []api.Token
	for at := 0; at < len(s); {
		line := 1 + strings.Count(s[:at], "\n")
		rest := s[at:]
		run, mark := runLook.FindString(rest), signLook.FindString(rest)
		gap := gapLook.FindString(rest)
		x := api.Token{Text: run, Line: line}
		n, err := strconv.ParseUint(run, 0, 32)
		switch {
		case slices.Contains(words, run):
			x.Kind = api.TokWord
		case nameLook.MatchString(run):
			x.Kind = api.TokName
		case numberLook.MatchString(run) && err == nil:
			x.Kind, x.N = api.TokNumber, int(n)
		case run == "" && mark != "":
			x.Kind, x.Text = api.TokSign, mark
		case run == "" && gap != "":
			at += len(gap)
			continue
		default:
			return nil, line
		}
		l = append(l, x)
		at += len(x.Text)
	}
	return append(l, end(1+strings.Count(s, "\n"))), 0
}

// agrees holds Scan against the chapter's words.
func agrees(t *testing.T, s string) {
	t.Helper()
	want, line := scanned(s)
	if line > 0 {
		refuses(t, s, api.ErrToken, line)
	} else {
		scansTo(t, s, want...)
	}
}

// T2: all texts of two bytes, and all short ones of some.
func TestAllShort(t *testing.T) {
	for b := range 1 << 16 {
		agrees(t, string([]byte{byte(b >> 8), byte(b)}))
	}
	for _, few := range []string{"<>=.!", "0x1fg", "i f\n#", "a9 \n;", "01 x_"} {
		for n := range 15625 {
			var b []byte
			for k := n; k > 0; k /= 5 {
				b = append(b, few[k%5])
			}
			agrees(t, string(b))
		}
	}
}

// T2: texts of any pieces.
func TestAnyText(t *testing.T) {
	rest := rand.New(rand.NewSource(7))
	some := slices.Concat(words, signs, []string{" ", " ", "\t", "\n", "\n", "#", "#x\n", "0", "1", "0x1f", "4294967295", "a", "_", "q9"})
	all := append(slices.Clone(some), "0x", "4294967296", "1000000000", ">", "$", "\r", "\xff", "ä", "\"")
	for _, pieces := range [][]string{some, all} {
		for range 20000 {
			var b strings.Builder
			for range rest.Intn(12) {
				b.WriteString(pieces[rest.Intn(len(pieces))])
			}
			agrees(t, b.String())
		}
	}
	for range 20000 {
		b := make([]byte, rest.Intn(9))
		for i := range b {
			b[i] = byte(rest.Intn(256))
		}
		agrees(t, string(b))
	}
}

// anyToken is a token of line 0.
func anyToken(rest *rand.Rand) api.Token {
	n := int(rest.Uint32()) >> rest.Intn(33)
	switch rest.Intn(5) {
	case 0:
		return word(words[rest.Intn(len(words))], 0)
	case 1:
		s := letters[rest.Intn(len(letters)):][:1]
		for range rest.Intn(20) {
			s += (letters + digits)[rest.Intn(len(letters)+len(digits)):][:1]
		}
		if slices.Contains(words, s) {
			return word(s, 0)
		}
		return name(s, 0)
	case 2:
		return number(strconv.Itoa(n), n, 0)
	case 3:
		s := strconv.FormatInt(int64(n), 16)
		return number("0x"+strings.Repeat("0", rest.Intn(9-len(s)))+s, n, 0)
	}
	return sign(signs[rest.Intn(len(signs))], 0)
}

// anyBetween is a blank, a line feed, or a comment, which goes up to a line feed.
func anyBetween(rest *rand.Rand) string {
	switch rest.Intn(4) {
	case 0:
		return " "
	case 1:
		return "\t"
	case 2:
		return "\n"
	}
	b := make([]byte, rest.Intn(20))
	for i := range b {
		b[i] = byte(rest.Intn(256))
	}
	return "#" + strings.ReplaceAll(string(b), "\n", ";") + "\n"
}

// T3: tokens' texts with something between are scanned to those tokens, and so they are, as far as they go, if the text is cut ahead of one.
func TestTokensAgain(t *testing.T) {
	rest := rand.New(rand.NewSource(8))
	for range 3000 {
		var l []api.Token
		var cuts []string
		text := ""
		for range rest.Intn(20) {
			x := anyToken(rest)
			x.Line = 1 + strings.Count(text, "\n")
			cuts = append(cuts, text)
			l = append(l, x)
			text += x.Text + anyBetween(rest)
		}
		scansTo(t, text, append(slices.Clone(l), end(1+strings.Count(text, "\n")))...)
		for i, cut := range cuts {
			scansTo(t, cut, append(slices.Clone(l[:i]), end(l[i].Line))...)
		}
	}
}

// T3: whatever text is scanned: its tokens' texts with something between are scanned to the same ones, but for lines.
func TestScannedAgain(t *testing.T) {
	rest := rand.New(rand.NewSource(9))
	pieces := slices.Concat(words, signs, []string{" ", "\n", "#==\n", "0", "10", " 0xff ", "x", "y1"})
	for range 20000 {
		var b strings.Builder
		for range rest.Intn(15) {
			b.WriteString(pieces[rest.Intn(len(pieces))])
		}
		first, err, _ := token.Scan(b.String())
		if err != api.OK {
			continue
		}
		between := [...]string{" ", "\n", "#\n"}[rest.Intn(3)]
		text := ""
		for i, x := range first {
			text += x.Text
			if i < len(first)-1 {
				text += between
			}
		}
		again, err, _ := token.Scan(text)
		if err != api.OK || !slices.EqualFunc(first, again, sameButLine) {
			t.Fatalf("%q %q: %v %v", b.String(), text, first, again)
		}
	}
}

func sameButLine(a, b api.Token) bool {
	a.Line, b.Line = 0, 0
	return a == b
}

// T3: a text is cut ahead of each of its tokens, and of its end, wherever they touch; what stands there then changes nothing of them.
func TestCut(t *testing.T) {
	const s = "a==b<.1<<0x2;lock r{r[0]=-x;}#c\n\n\tuart if!0"
	starts := []int{0, 1, 3, 4, 6, 7, 9, 12, 13, 18, 19, 20, 21, 22, 23, 24, 25, 26, 27, 28, 34, 39, 41, 42, 43}
	whole, err, _ := token.Scan(s)
	if err != api.OK || len(whole) != len(starts) {
		t.Fatal(err, len(whole))
	}
	for i, at := range starts {
		line := whole[i].Line
		scansTo(t, s[:at], append(slices.Clone(whole[:i]), end(line))...)
		scansTo(t, s[:at]+" #$\n]", append(slices.Clone(whole[:i]), sign("]", line+1), end(line+1))...)
		for _, none := range []string{" $", " >", " \x00", " 00", " $ >\n00"} {
			refuses(t, s[:at]+none, api.ErrToken, line)
		}
	}
}

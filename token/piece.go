package token

import (
	"math"
	"strings"

	"headstock/api"
)

// How many digits a number may have, by its base.
const (
	mostDecimal = 10
	mostHex     = 8
)

// signs stand so that none is behind one that it begins with: the first one that fits is the longest.
var signs = [...]string{"==", "!=", "<<", ">>", "<.", "+", "-", "*", "/", "%", "&", "|", "^", "<", "=", "!", "~", "(", ")", "{", "}", "[", "]", ";", "."}

func isDigit(c byte) bool { return c >= '0' && c <= '9' }

func isLetter(c byte) bool { return c >= 'a' && c <= 'z' || c >= 'A' && c <= 'Z' || c == '_' }

// gapLength is how many bytes are passed over at a text's beginning: one, or a comment up to its line feed, which is left.
func gapLength(s string) int {
	switch s[0] {
	case ' ', '\t', '\n':
		return 1
	case '#':
		if n := strings.IndexByte(s, '\n'); n > 0 {
			return n
		}
		return len(s)
	}
	return 0
}

// runLength is how far letters and digits go from a text's beginning on.
func runLength(s string) int {
	n := 0
	for n < len(s) && (isLetter(s[n]) || isDigit(s[n])) {
		n++
	}
	return n
}

// ofRun is the token that letters and digits are; false: they are none.
func ofRun(s string, line int) (api.Token, bool) {
	// The text that is scanned is not kept, so that a token has bytes of its own.
	x := api.Token{Text: strings.Clone(s), Line: line}
	n, ok := Number(s)
	switch {
	case Word(s):
		x.Kind = api.TokWord
	case Name(s):
		x.Kind = api.TokName
	case ok:
		x.Kind, x.N = api.TokNumber, n
	default:
		return api.Token{}, false
	}
	return x, true
}

// value is what digits of a base tell, if there are at most so many, which no sum of them can take beyond 64 bits.
func value(s string, base, most int) (int, bool) {
	if s == "" || len(s) > most {
		return 0, false
	}
	n := 0
	for i := range len(s) {
		d := strings.IndexByte("0123456789abcdef", s[i])
		if d < 0 || d >= base {
			return 0, false
		}
		n = n*base + d
	}
	if n > math.MaxUint32 {
		return 0, false
	}
	return n, true
}

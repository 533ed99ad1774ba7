package reader

import (
	"headstock/api"
	"headstock/wrap"
)

// deepest is how deep parts and blocks may stand in one another while they are read: beyond it the reader goes no further down.
const deepest = 1000

// fault is what ends a parse: an error, and its line.
type fault struct {
	err  api.Errno
	line int
}

// beyond is what is beyond a limit: it is told of the whole text.
func beyond() fault { return fault{err: api.ErrLimit, line: 1} }

// reader has the tokens that are still to be read. The end is never passed over, so that there always is a next one.
type reader struct{ left []api.Token }

func (r *reader) next() api.Token { return r.left[0] }

func (r *reader) pass() { r.left = r.left[1:] }

// refuse ends the parse at the next token, which can't stand where it does.
func (r *reader) refuse() { panic(fault{err: api.ErrSyntax, line: r.next().Line}) }

// descend ends the parse where a part or a block stands too deep.
func (r *reader) descend(deep int) {
	if deep > deepest {
		panic(beyond())
	}
}

// take passes over a token of that text, if it is the next one.
func (r *reader) take(text string) bool {
	if r.next().Text != text {
		return false
	}
	r.pass()
	return true
}

func (r *reader) must(text string) {
	if !r.take(text) {
		r.refuse()
	}
}

// ofKind passes over the next token, which must be of that kind.
func (r *reader) ofKind(kind int) api.Token {
	x := r.next()
	if x.Kind != kind {
		r.refuse()
	}
	r.pass()
	return x
}

func (r *reader) name() string { return r.ofKind(api.TokName).Text }

func (r *reader) number() int { return r.ofKind(api.TokNumber).N }

func (r *reader) isAtEnd() bool { return r.next().Kind == api.TokEnd }

// operator is which one, of those from first to last, has the next token as its sign; 0: none of them.
func (r *reader) operator(first, last int) int {
	for op := first; op <= last; op++ {
		if sign, ok := wrap.Sign(op); ok && sign == r.next().Text {
			return op
		}
	}
	return 0
}

package wrap_test

import (
	"math"
	"testing"

	"headstock/api"
	"headstock/wrap"
)

const (
	least = -1 << 31
	most  = 1<<31 - 1
	turn  = 1 << 32
)

var twos = []int{api.OpAdd, api.OpSub, api.OpMul, api.OpDiv, api.OpRem, api.OpAnd, api.OpOr, api.OpXor, api.OpShl, api.OpShr, api.OpLt, api.OpLess, api.OpEq, api.OpNe}

var ones = []int{api.OpNeg, api.OpNot, api.OpInv}

// others are numbers of no operator at all: beside the first and the last, and such as have an operator's lowest bits.
func others() []int {
	l := []int{math.MinInt, math.MaxInt, least, most, turn, -turn}
	for n := -300; n <= 600; n++ {
		if n < api.OpAdd || n > api.OpInv {
			l = append(l, n)
		}
	}
	for op := api.OpAdd; op <= api.OpInv; op++ {
		for _, far := range []int{1 << 10, 1 << 16, 1 << 31, turn, 1 << 62, math.MinInt} {
			l = append(l, op+far)
		}
	}
	return l
}

// W1

func TestWrapAndWord(t *testing.T) {
	for _, x := range []struct{ n, wrap, word int }{
		{0, 0, 0},
		{1, 1, 1},
		{-1, -1, turn - 1},
		{-2, -2, turn - 2},
		{127, 127, 127},
		{128, 128, 128},
		{1 << 15, 1 << 15, 1 << 15},
		{1 << 16, 1 << 16, 1 << 16},
		{-65537, -65537, turn - 65537},
		{most - 1, most - 1, most - 1},
		{most, most, most},
		{1 << 31, least, 1 << 31},
		{1<<31 + 1, least + 1, 1<<31 + 1},
		{least, least, 1 << 31},
		{least + 1, least + 1, 1<<31 + 1},
		{least - 1, most, most},
		{least - 2, most - 1, most - 1},
		{turn - 1, -1, turn - 1},
		{turn, 0, 0},
		{turn + 1, 1, 1},
		{-turn, 0, 0},
		{-turn - 1, -1, turn - 1},
		{-turn + 1, 1, 1},
		{3*turn + most, most, most},
		{3*turn + 1<<31, least, 1 << 31},
		{-3*turn + 9, 9, 9},
		{1 << 40, 0, 0},
		{0x123456789abcdef0, 0x9abcdef0 - turn, 0x9abcdef0},
		{-0x123456789abcdef0, turn - 0x9abcdef0, turn - 0x9abcdef0},
		{math.MaxInt, -1, turn - 1},
		{math.MaxInt - 1, -2, turn - 2},
		{math.MinInt, 0, 0},
		{math.MinInt + 1, 1, 1},
	} {
		if n := wrap.Wrap(x.n); n != x.wrap {
			t.Errorf("Wrap(%d): %d, not %d", x.n, n, x.wrap)
		}
		if n := wrap.Word(x.n); n != x.word {
			t.Errorf("Word(%d): %d, not %d", x.n, n, x.word)
		}
	}
}

// W2

func TestTwo(t *testing.T) {
	for _, x := range []struct{ op, a, b, want int }{
		{api.OpOr, 6, 3, 7},
		{api.OpOr, 6, 6, 6},
		{api.OpOr, least, 1, least + 1},
		{api.OpOr, turn, 0, 0},
		{api.OpOr, 1 << 31, 1, least + 1},
		{api.OpXor, 6, 3, 5},
		{api.OpXor, 6, 6, 0},
		{api.OpXor, -1, 3, -4},
		{api.OpXor, least, most, -1},
		{api.OpXor, turn, 1, 1},
		{api.OpAnd, 6, 3, 2},
		{api.OpAnd, 6, 9, 0},
		{api.OpAnd, -1, least, least},
		{api.OpAnd, turn + 5, turn + 4, 4},

		{api.OpEq, 3, 3, 1},
		{api.OpEq, 3, 4, 0},
		{api.OpEq, 3, -3, 0},
		{api.OpEq, -1, turn - 1, 1},
		{api.OpEq, 1 << 31, least, 1},
		{api.OpEq, turn, 0, 1},
		{api.OpEq, math.MinInt, 0, 1},
		{api.OpNe, 3, 3, 0},
		{api.OpNe, 3, 4, 1},
		{api.OpNe, 3, -3, 1},
		{api.OpNe, -1, turn - 1, 0},
		{api.OpNe, 0, turn, 0},

		{api.OpLt, 2, 3, 1},
		{api.OpLt, 3, 3, 0},
		{api.OpLt, 4, 3, 0},
		{api.OpLt, -1, 0, 1},
		{api.OpLt, 0, -1, 0},
		{api.OpLt, least, most, 1},
		{api.OpLt, most, least, 0},
		{api.OpLt, 1 << 31, 0, 1},
		{api.OpLt, 0, 1 << 31, 0},
		{api.OpLt, turn, 1, 1},
		{api.OpLt, 1, turn + 1, 0},
		{api.OpLess, 2, 3, 1},
		{api.OpLess, 3, 3, 0},
		{api.OpLess, 4, 3, 0},
		{api.OpLess, -1, 0, 0},
		{api.OpLess, 0, -1, 1},
		{api.OpLess, -2, -1, 1},
		{api.OpLess, -1, -2, 0},
		{api.OpLess, least, most, 0},
		{api.OpLess, most, least, 1},
		{api.OpLess, turn, 1, 1},
		{api.OpLess, 1, turn + 1, 0},

		{api.OpShl, 1, 0, 1},
		{api.OpShl, 3, 4, 48},
		{api.OpShl, 1, 30, 1 << 30},
		{api.OpShl, 1, 31, least},
		{api.OpShl, 3, 31, least},
		{api.OpShl, 2, 31, 0},
		{api.OpShl, -1, 31, least},
		{api.OpShl, least, 1, 0},
		{api.OpShl, -3, 4, -48},
		{api.OpShl, 3, 32, 3},
		{api.OpShl, 3, 33, 6},
		{api.OpShl, 3, 63, least},
		{api.OpShl, 3, 64, 3},
		{api.OpShl, 3, -1, least},
		{api.OpShl, 3, -32, 3},
		{api.OpShl, 3, -31, 6},
		{api.OpShl, 3, turn + 1, 6},
		{api.OpShl, turn + 3, 1, 6},
		{api.OpShl, 3, math.MinInt, 3},
		{api.OpShr, 48, 0, 48},
		{api.OpShr, 48, 4, 3},
		{api.OpShr, 7, 1, 3},
		{api.OpShr, most, 30, 1},
		{api.OpShr, most, 31, 0},
		{api.OpShr, least, 31, -1},
		{api.OpShr, least, 1, -1 << 30},
		{api.OpShr, -7, 1, -4},
		{api.OpShr, -1, 5, -1},
		{api.OpShr, 48, 32, 48},
		{api.OpShr, 48, 36, 3},
		{api.OpShr, 48, 64, 48},
		{api.OpShr, -8, -31, -4},
		{api.OpShr, -8, -1, -1},
		{api.OpShr, 48, turn + 4, 3},
		{api.OpShr, turn + 48, 4, 3},
		{api.OpShr, turn, 1, 0},
		{api.OpShr, 1 << 31, 31, -1},
		{api.OpShr, 48, math.MaxInt, 0},

		{api.OpAdd, 2, 5, 7},
		{api.OpAdd, most, 1, least},
		{api.OpAdd, least, -1, most},
		{api.OpAdd, least, least, 0},
		{api.OpAdd, turn + 2, -turn + 5, 7},
		{api.OpAdd, math.MaxInt, math.MaxInt, -2},
		{api.OpSub, 2, 5, -3},
		{api.OpSub, least, 1, most},
		{api.OpSub, most, -1, least},
		{api.OpSub, 0, least, least},
		{api.OpSub, 0, 1 << 31, least},
		{api.OpSub, math.MinInt, 1, -1},

		{api.OpMul, 6, -7, -42},
		{api.OpMul, -6, -7, 42},
		{api.OpMul, 65536, 65536, 0},
		{api.OpMul, 65536, 32768, least},
		{api.OpMul, least, -1, least},
		{api.OpMul, 1 << 31, -1, least},
		{api.OpMul, least, least, 0},
		{api.OpMul, most, most, 1},
		{api.OpMul, turn + 3, turn + 5, 15},
		{api.OpMul, math.MinInt, math.MinInt, 0},

		{api.OpDiv, 7, 2, 3},
		{api.OpDiv, -7, 2, -3},
		{api.OpDiv, 7, -2, -3},
		{api.OpDiv, -7, -2, 3},
		{api.OpDiv, 1, 2, 0},
		{api.OpDiv, -1, 2, 0},
		{api.OpDiv, 7, 0, -1},
		{api.OpDiv, -7, 0, -1},
		{api.OpDiv, 0, 0, -1},
		{api.OpDiv, least, 0, -1},
		{api.OpDiv, 7, turn, -1},
		{api.OpDiv, 7, math.MinInt, -1},
		{api.OpDiv, least, -1, least},
		{api.OpDiv, 1 << 31, turn - 1, least},
		{api.OpDiv, least, 1, least},
		{api.OpDiv, least, 2, -1 << 30},
		{api.OpDiv, most, least, 0},
		{api.OpDiv, turn + 9, 2, 4},
		{api.OpDiv, 9, turn + 2, 4},
		{api.OpDiv, turn - 9, 2, -4},

		{api.OpRem, 7, 2, 1},
		{api.OpRem, -7, 2, -1},
		{api.OpRem, 7, -2, 1},
		{api.OpRem, -7, -2, -1},
		{api.OpRem, 8, 2, 0},
		{api.OpRem, 7, 0, 7},
		{api.OpRem, -9, 0, -9},
		{api.OpRem, 0, 0, 0},
		{api.OpRem, least, 0, least},
		{api.OpRem, 1 << 31, 0, least},
		{api.OpRem, 7, turn, 7},
		{api.OpRem, turn + 7, turn, 7},
		{api.OpRem, least, -1, 0},
		{api.OpRem, 1 << 31, turn - 1, 0},
		{api.OpRem, most, least, most},
		{api.OpRem, least, most, -1},
		{api.OpRem, turn + 9, 5, 4},
		{api.OpRem, 9, turn + 5, 4},
	} {
		if n, ok := wrap.Two(x.op, x.a, x.b); n != x.want || !ok {
			t.Errorf("Two(%d, %d, %d): %d, %t, not %d", x.op, x.a, x.b, n, ok, x.want)
		}
	}
}

func TestOne(t *testing.T) {
	for _, x := range []struct{ op, a, want int }{
		{api.OpNeg, 0, 0},
		{api.OpNeg, 5, -5},
		{api.OpNeg, -5, 5},
		{api.OpNeg, most, least + 1},
		{api.OpNeg, least, least},
		{api.OpNeg, 1 << 31, least},
		{api.OpNeg, turn + 5, -5},
		{api.OpNeg, turn - 5, 5},
		{api.OpNeg, math.MinInt, 0},
		{api.OpNot, 0, 1},
		{api.OpNot, 1, 0},
		{api.OpNot, 2, 0},
		{api.OpNot, -1, 0},
		{api.OpNot, least, 0},
		{api.OpNot, turn, 1},
		{api.OpNot, turn + 1, 0},
		{api.OpNot, math.MinInt, 1},
		{api.OpInv, 0, -1},
		{api.OpInv, -1, 0},
		{api.OpInv, 5, -6},
		{api.OpInv, most, least},
		{api.OpInv, least, most},
		{api.OpInv, turn, -1},
		{api.OpInv, turn - 1, 0},
		{api.OpInv, math.MaxInt, 0},
	} {
		if n, ok := wrap.One(x.op, x.a); n != x.want || !ok {
			t.Errorf("One(%d, %d): %d, %t, not %d", x.op, x.a, n, ok, x.want)
		}
	}
}

func TestNoOperator(t *testing.T) {
	noTwo := append(others(), ones...)
	noOne := append(others(), twos...)
	for _, a := range []int{0, 1, -1, 7, least, turn, math.MinInt} {
		for _, op := range noTwo {
			for _, b := range []int{0, 1, -1, turn} {
				if n, ok := wrap.Two(op, a, b); n != 0 || ok {
					t.Errorf("Two(%d, %d, %d): %d, %t", op, a, b, n, ok)
				}
			}
		}
		for _, op := range noOne {
			if n, ok := wrap.One(op, a); n != 0 || ok {
				t.Errorf("One(%d, %d): %d, %t", op, a, n, ok)
			}
		}
	}
}

// W3

func TestHigh(t *testing.T) {
	for _, x := range []struct{ a, b, with, without int }{
		{0, 0, 0, 0},
		{0, -1, 0, 0},
		{2, 3, 0, 0},
		{1, -1, -1, 0},
		{-1, 1, -1, 0},
		{-1, -1, 0, -2},
		{2, -1, -1, 1},
		{-1, 2, -1, 1},
		{-2, -3, 0, -5},
		{65536, 65536, 1, 1},
		{65536, 65535, 0, 0},
		{-65536, 65536, -1, 65535},
		{-65536, 65537, -2, 65535},
		{least, 2, -1, 1},
		{least, 1, -1, 0},
		{least, 3, -2, 1},
		{least, -1, 0, most},
		{least, least, 1 << 30, 1 << 30},
		{least, most, -1 << 30, 1<<30 - 1},
		{most, most, 1<<30 - 1, 1<<30 - 1},
		{most, 2, 0, 0},
		{most, 4, 1, 1},
		{most, -1, -1, most - 1},
		{1 << 31, 2, -1, 1},
		{turn - 1, turn - 1, 0, -2},
		{turn, turn, 0, 0},
		{turn + 1, -1, -1, 0},
		{5*turn + 65536, -7*turn + 65536, 1, 1},
		{math.MaxInt, math.MaxInt, 0, -2},
		{math.MinInt, math.MinInt, 0, 0},
		{math.MinInt + 1, math.MaxInt, -1, 0},
	} {
		if n := wrap.High(x.a, x.b, true); n != x.with {
			t.Errorf("High(%d, %d, true): %d, not %d", x.a, x.b, n, x.with)
		}
		if n := wrap.High(x.a, x.b, false); n != x.without {
			t.Errorf("High(%d, %d, false): %d, not %d", x.a, x.b, n, x.without)
		}
	}
}

// W4

func TestSignAndLevel(t *testing.T) {
	for _, x := range []struct {
		op    int
		sign  string
		level int
	}{
		{api.OpOr, "|", 1},
		{api.OpXor, "^", 2},
		{api.OpAnd, "&", 3},
		{api.OpEq, "==", 4},
		{api.OpNe, "!=", 4},
		{api.OpLt, "<", 5},
		{api.OpLess, "<.", 5},
		{api.OpShl, "<<", 6},
		{api.OpShr, ">>", 6},
		{api.OpAdd, "+", 7},
		{api.OpSub, "-", 7},
		{api.OpMul, "*", 8},
		{api.OpDiv, "/", 8},
		{api.OpRem, "%", 8},
		{api.OpNeg, "-", 0},
		{api.OpNot, "!", 0},
		{api.OpInv, "~", 0},
	} {
		if s, ok := wrap.Sign(x.op); s != x.sign || !ok {
			t.Errorf("Sign(%d): %q, %t, not %q", x.op, s, ok, x.sign)
		}
		if n := wrap.Level(x.op); n != x.level {
			t.Errorf("Level(%d): %d, not %d", x.op, n, x.level)
		}
	}
	for _, op := range others() {
		if s, ok := wrap.Sign(op); s != "" || ok {
			t.Errorf("Sign(%d): %q, %t", op, s, ok)
		}
		if n := wrap.Level(op); n != 0 {
			t.Errorf("Level(%d): %d", op, n)
		}
	}
}

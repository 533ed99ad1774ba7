package wrap_test

import (
	"math"
	"math/big"
	"testing"

	"headstock/api"
	"headstock/wrap"
)

// The tests of this file reckon everything anew, with numbers of any length and bit by bit, and hold the package against that.

// numbers are the edges of 32 and of 64 bits with their neighbours, and some more by a fixed rule.
func numbers() []int {
	var l []int
	for _, edge := range []int{0, 31, 32, 63, 64, 1 << 15, 1 << 16, 1 << 30, least, 1 << 31, turn, -turn, 5*turn + 7, math.MinInt + 1, math.MaxInt - 1} {
		l = append(l, edge-1, edge, edge+1)
	}
	x := uint64(1)
	for range 60 {
		x = x*6364136223846793005 + 1442695040888963407
		l = append(l, int(x), int(int32(x>>32)), int(x>>58))
	}
	return l
}

// cut is a number of any length, cut to 32 bits, with its sign.
func cut(x *big.Int) int {
	n := new(big.Int).Mod(x, big.NewInt(turn)).Int64()
	if n > most {
		n -= turn
	}
	return int(n)
}

func with(n int) *big.Int { return big.NewInt(int64(cut(big.NewInt(int64(n))))) }

func without(n int) *big.Int { return new(big.Int).Mod(big.NewInt(int64(n)), big.NewInt(turn)) }

// bits puts a number together from those that say makes of two numbers' bits.
func bits(a, b int, say func(x, y uint) bool) *big.Int {
	n := new(big.Int)
	for k := range 32 {
		if say(without(a).Bit(k), without(b).Bit(k)) {
			n.SetBit(n, k, 1)
		}
	}
	return n
}

func told(so bool) *big.Int {
	if so {
		return big.NewInt(1)
	}
	return new(big.Int)
}

// power is two, so often as the lowest five bits tell.
func power(b int) *big.Int {
	k := new(big.Int).Mod(big.NewInt(int64(b)), big.NewInt(32))
	return new(big.Int).Exp(big.NewInt(2), k, nil)
}

func table(op, a, b int) int {
	x, y, n := with(a), with(b), new(big.Int)
	switch op {
	case api.OpOr:
		n = bits(a, b, func(x, y uint) bool { return x+y > 0 })
	case api.OpXor:
		n = bits(a, b, func(x, y uint) bool { return x+y == 1 })
	case api.OpAnd:
		n = bits(a, b, func(x, y uint) bool { return x+y == 2 })
	case api.OpEq:
		n = told(x.Cmp(y) == 0)
	case api.OpNe:
		n = told(x.Cmp(y) != 0)
	case api.OpLt:
		n = told(x.Cmp(y) < 0)
	case api.OpLess:
		n = told(without(a).Cmp(without(b)) < 0)
	case api.OpShl:
		n.Mul(x, power(b))
	case api.OpShr:
		n.Div(x, power(b)) // by more than 0: cut downwards
	case api.OpAdd:
		n.Add(x, y)
	case api.OpSub:
		n.Sub(x, y)
	case api.OpMul:
		n.Mul(x, y)
	case api.OpDiv:
		n.SetInt64(-1)
		if y.Sign() != 0 {
			n.Quo(x, y)
		}
	case api.OpRem:
		n.Set(x)
		if y.Sign() != 0 {
			n.Rem(x, y)
		}
	}
	return cut(n)
}

// W1, W5: within the bounds, the same by the lowest 32 bits, and the one is had from the other.
func TestWrapOfWrap(t *testing.T) {
	for _, n := range numbers() {
		a, b := wrap.Wrap(n), wrap.Word(n)
		if a != cut(big.NewInt(int64(n))) || int64(b) != without(n).Int64() {
			t.Errorf("%d: Wrap %d, Word %d", n, a, b)
		}
		if wrap.Wrap(a) != a || wrap.Word(b) != b || wrap.Wrap(b) != a || wrap.Word(a) != b {
			t.Errorf("%d: Wrap and Word don't go along", n)
		}
	}
}

// W2 for all pairs of numbers.
func TestTwoByTable(t *testing.T) {
	for _, op := range twos {
		for _, a := range numbers() {
			for _, b := range numbers() {
				if n, ok := wrap.Two(op, a, b); n != table(op, a, b) || !ok {
					t.Fatalf("Two(%d, %d, %d): %d, %t, not %d", op, a, b, n, ok, table(op, a, b))
				}
			}
		}
	}
}

// W2 for one number: what is made of it is what the table makes of it and another one.
func TestOneByTable(t *testing.T) {
	for _, a := range numbers() {
		for _, x := range []struct{ op, want int }{
			{api.OpNeg, table(api.OpSub, 0, a)},
			{api.OpNot, table(api.OpEq, a, 0)},
			{api.OpInv, table(api.OpXor, a, -1)},
		} {
			if n, ok := wrap.One(x.op, a); n != x.want || !ok {
				t.Errorf("One(%d, %d): %d, %t, not %d", x.op, a, n, ok, x.want)
			}
		}
	}
}

// W5: bits above the lowest 32 count nowhere.
func TestLowestBits(t *testing.T) {
	for _, a := range numbers() {
		for _, b := range numbers() {
			x, y := cut(big.NewInt(int64(a))), cut(big.NewInt(int64(b)))
			for _, op := range twos {
				far, _ := wrap.Two(op, a, b)
				if near, _ := wrap.Two(op, x, y); near != far {
					t.Fatalf("Two(%d, %d, %d): %d, but %d of what is wrapped", op, a, b, far, near)
				}
			}
			for _, signs := range []bool{true, false} {
				if wrap.High(a, b, signs) != wrap.High(x, y, signs) {
					t.Fatalf("High(%d, %d, %t) is another one of what is wrapped", a, b, signs)
				}
			}
		}
		for _, op := range ones {
			far, _ := wrap.One(op, a)
			if near, _ := wrap.One(op, wrap.Wrap(a)); near != far {
				t.Errorf("One(%d, %d): %d, but %d of what is wrapped", op, a, far, near)
			}
		}
	}
}

// W5: quotient times divisor and rest are the number, by 0 too.
func TestQuotientAndRest(t *testing.T) {
	for _, a := range numbers() {
		for _, b := range numbers() {
			q, _ := wrap.Two(api.OpDiv, a, b)
			r, _ := wrap.Two(api.OpRem, a, b)
			p, _ := wrap.Two(api.OpMul, q, b)
			if n, _ := wrap.Two(api.OpAdd, p, r); n != cut(big.NewInt(int64(a))) {
				t.Fatalf("%d by %d: %d, rest %d", a, b, q, r)
			}
		}
	}
}

// W3, W5: the upper half, and the lower one without its sign, are the product in full.
func TestHalves(t *testing.T) {
	for _, a := range numbers() {
		for _, b := range numbers() {
			low, _ := wrap.Two(api.OpMul, a, b)
			for _, signs := range []bool{true, false} {
				high := wrap.High(a, b, signs)
				if high < least || high > most {
					t.Fatalf("High(%d, %d, %t): %d", a, b, signs, high)
				}
				upper, product := big.NewInt(int64(high)), new(big.Int).Mul(with(a), with(b))
				if !signs {
					upper, product = without(high), product.Mul(without(a), without(b))
				}
				n := upper.Lsh(upper, 32)
				if n.Add(n, without(low)).Cmp(product) != 0 {
					t.Fatalf("High(%d, %d, %t): %d, beside %d, not %v", a, b, signs, high, low, product)
				}
			}
		}
	}
}

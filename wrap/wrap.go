// Package wrap is layer 1: see shared/doc/01-wrap.md.
package wrap

import "headstock/api"

// texts are the operators' texts, by their numbers.
var texts = [...]string{
	api.OpAdd:  "+",
	api.OpSub:  "-",
	api.OpMul:  "*",
	api.OpDiv:  "/",
	api.OpRem:  "%",
	api.OpAnd:  "&",
	api.OpOr:   "|",
	api.OpXor:  "^",
	api.OpShl:  "<<",
	api.OpShr:  ">>",
	api.OpLt:   "<",
	api.OpLess: "<.",
	api.OpEq:   "==",
	api.OpNe:   "!=",
	api.OpNeg:  "-",
	api.OpNot:  "!",
	api.OpInv:  "~",
}

// Wrap is a number cut to 32 bits, with its sign; Word the same without it.
func Wrap(n int) int { return int(int32(n)) }

func Word(n int) int { return int(uint32(n)) }

// Two is what an operator makes of two numbers, One of one; false: there is no such operator.
func Two(op, a, b int) (int, bool) {
	a, b = Wrap(a), Wrap(b)
	n := 0
	// 64 bits hold whatever 32 bits come to here, a product and a move by 31 too: one Wrap behind it is enough.
	switch op {
	case api.OpOr:
		n = a | b
	case api.OpXor:
		n = a ^ b
	case api.OpAnd:
		n = a & b
	case api.OpEq:
		n = truth(a == b)
	case api.OpNe:
		n = truth(a != b)
	case api.OpLt:
		n = truth(a < b)
	case api.OpLess:
		n = truth(Word(a) < Word(b))
	case api.OpShl:
		n = a << moves(b)
	case api.OpShr:
		n = a >> moves(b)
	case api.OpAdd:
		n = a + b
	case api.OpSub:
		n = a - b
	case api.OpMul:
		n = a * b
	case api.OpDiv:
		n = quotient(a, b)
	case api.OpRem:
		n = rest(a, b)
	default:
		return 0, false
	}
	return Wrap(n), true
}

func One(op, a int) (int, bool) {
	a = Wrap(a)
	switch op {
	case api.OpNeg:
		return Wrap(-a), true
	case api.OpNot:
		return truth(a == 0), true
	case api.OpInv:
		return ^a, true
	}
	return 0, false
}

func truth(so bool) int {
	if so {
		return 1
	}
	return 0
}

// moves is by how many bits a number moves another one.
func moves(b int) int { return b & 31 }

func quotient(a, b int) int {
	if b == 0 {
		return -1
	}
	return a / b
}

func rest(a, b int) int {
	if b == 0 {
		return a
	}
	return a % b
}

// High is the upper half of a product: of numbers with signs, or without.
func High(a, b int, signs bool) int {
	if signs {
		return Wrap(Wrap(a) * Wrap(b) >> 32)
	}
	// Without signs a product needs all of 64 bits, the sign's place too.
	return Wrap(int(uint64(Word(a)) * uint64(Word(b)) >> 32))
}

// Sign and Level are an operator's text, and how strongly it binds.
func Sign(op int) (string, bool) {
	if op < 0 || op >= len(texts) || texts[op] == "" {
		return "", false
	}
	return texts[op], true
}

// An operator binds one level more strongly than those of the next case, down to those that bind least.
func Level(op int) int {
	level := 0
	switch op {
	case api.OpMul, api.OpDiv, api.OpRem:
		level++
		fallthrough
	case api.OpAdd, api.OpSub:
		level++
		fallthrough
	case api.OpShl, api.OpShr:
		level++
		fallthrough
	case api.OpLt, api.OpLess:
		level++
		fallthrough
	case api.OpEq, api.OpNe:
		level++
		fallthrough
	case api.OpAnd:
		level++
		fallthrough
	case api.OpXor:
		level++
		fallthrough
	case api.OpOr:
		level++
	}
	return level
}

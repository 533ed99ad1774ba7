package hart

import (
	"headstock/api"
	"headstock/wrap"
)

// operators are what instructions make of two numbers, by the instructions' numbers; 0: nothing that package wrap makes.
var operators = [api.InAmoAdd + 1]int{
	api.InBeq:   api.OpEq,
	api.InBne:   api.OpNe,
	api.InBlt:   api.OpLt,
	api.InBge:   api.OpLt,
	api.InBltu:  api.OpLess,
	api.InBgeu:  api.OpLess,
	api.InAddi:  api.OpAdd,
	api.InSlti:  api.OpLt,
	api.InSltiu: api.OpLess,
	api.InXori:  api.OpXor,
	api.InOri:   api.OpOr,
	api.InAndi:  api.OpAnd,
	api.InSlli:  api.OpShl,
	api.InSrai:  api.OpShr,
	api.InAdd:   api.OpAdd,
	api.InSub:   api.OpSub,
	api.InSll:   api.OpShl,
	api.InSlt:   api.OpLt,
	api.InSltu:  api.OpLess,
	api.InXor:   api.OpXor,
	api.InSra:   api.OpShr,
	api.InOr:    api.OpOr,
	api.InAnd:   api.OpAnd,
	api.InMul:   api.OpMul,
	api.InDiv:   api.OpDiv,
	api.InRem:   api.OpRem,
}

// number is what an instruction makes for its register, not cut yet; false: it makes none.
func number(h api.Hart, in api.Instr) (int, bool) {
	a, b := h.Regs[in.A], second(h, in)
	switch in.Op {
	case api.InLui:
		return in.N << 12, true
	case api.InAuipc:
		return place(h, in.N<<12), true
	case api.InSrli, api.InSrl:
		return wrap.Word(a) >> (b & 31), true
	case api.InMulh, api.InMulhu:
		return wrap.High(a, b, in.Op == api.InMulh), true
	case api.InDivu:
		quotient, _ := divided(wrap.Word(a), wrap.Word(b))
		return quotient, true
	case api.InRemu:
		_, rest := divided(wrap.Word(a), wrap.Word(b))
		return rest, true
	}
	return wrap.Two(operators[in.Op], a, b)
}

// second is the second number of an instruction that has a register for it, or its own number: of the two it has one, and the other one is 0.
func second(h api.Hart, in api.Instr) int {
	if in.B != 0 {
		return h.Regs[in.B]
	}
	return in.N
}

// divided are the quotient and the rest of numbers without signs, which package wrap has not.
func divided(a, b int) (int, int) {
	if b == 0 {
		return -1, a
	}
	return a / b, a % b
}

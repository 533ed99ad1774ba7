package label

import (
	"math"

	"headstock/api"
	"headstock/code"
)

func isLabel(s string) bool {
	if len(s) < 1 || len(s) > api.MaxLabel {
		return false
	}
	for i := range len(s) {
		if s[i] < 33 || s[i] > 126 {
			return false
		}
	}
	return true
}

// leads tells whether an instruction may lead to a label, whose place is its number later on.
func leads(in api.Instr) bool {
	return (in.Op == api.InJal || isBranch(in.Op)) && in.N == 0 && code.Right(in)
}

func isBranch(op int) bool { return opposite(op) != 0 }

// opposite is the branch that goes where another one does not; 0: that is no branch.
func opposite(op int) int {
	switch op {
	case api.InBeq:
		return api.InBne
	case api.InBne:
		return api.InBeq
	case api.InBlt:
		return api.InBge
	case api.InBge:
		return api.InBlt
	case api.InBltu:
		return api.InBgeu
	case api.InBgeu:
		return api.InBltu
	}
	return 0
}

// mayLoad tells whether there are instructions that bring a number to a register.
func mayLoad(d, n int) bool {
	return d >= 1 && d < api.Regs && n >= math.MinInt32 && n <= math.MaxInt32
}

// isShort tells whether addi alone brings a number.
func isShort(n int) bool { return n == lowTwelve(n) }

// lowTwelve are a number's lowest twelve bits, with their sign.
func lowTwelve(n int) int { return (n+2048)&4095 - 2048 }

// sizeOf is how many words an item has; of what leads to a label, while it is short.
func sizeOf(x api.Item) int {
	switch x.Kind {
	case api.ItemLabel:
		return 0
	case api.ItemNum:
		return len(Number(x.In.D, x.N))
	case api.ItemNops:
		return x.N
	}
	return 1
}

package hart

import (
	"headstock/api"
	"headstock/wrap"
)

// jump is a hart behind InJal or InJalr.
func jump(h api.Hart, in api.Instr) api.Hart {
	// Where it goes is told ahead of what is put: it may be that register that leads there.
	to := place(h, in.N)
	if in.Op == api.InJalr {
		to = wrap.Wrap(h.Regs[in.A]+in.N) &^ 1
	}
	h = Put(h, in.D, place(h, long))
	h.PC = to
	return h
}

// branch is a hart behind a branch.
func branch(h api.Hart, in api.Instr) api.Hart {
	if leads(h, in) {
		return goBy(h, in.N)
	}
	return goBy(h, long)
}

// leads tells whether a branch goes where it leads.
func leads(h api.Hart, in api.Instr) bool {
	n, _ := wrap.Two(operators[in.Op], h.Regs[in.A], h.Regs[in.B])
	switch in.Op {
	case api.InBge, api.InBgeu:
		// No operator tells what is not below: these have the one that tells the contrary.
		return n == 0
	}
	return n != 0
}

package hart

import (
	"headstock/api"
	"headstock/wrap"
)

// control is a hart behind an instruction that tells a control register, and changes it.
func control(h api.Hart, id int, in api.Instr) (api.Hart, api.Effect) {
	// The hart's own number is looked up as all the others are, but what is written there goes nowhere.
	own := wrap.Wrap(id)
	register, bits := controlOf(&h, &own, in.N)
	if register == nil {
		return bad(h)
	}
	old, n := *register, h.Regs[in.A]
	switch in.Op {
	case api.InCsrrs:
		n = old | n
	case api.InCsrrc:
		n = old &^ n
	}
	*register = n & bits
	return goBy(Put(h, in.D, old), long), api.Effect{}
}

// controlOf is where the control register of a number stands, and which bits it has; nil: there is none.
func controlOf(h *api.Hart, own *int, number int) (*int, int) {
	const all, aligned = -1, -4
	switch number {
	case api.CsrStatus:
		return &h.Status, letsIn | letIn
	case api.CsrVector:
		return &h.Vector, aligned
	case api.CsrScratch:
		return &h.Scratch, all
	case api.CsrEPC:
		return &h.EPC, aligned
	case api.CsrCause:
		return &h.Cause, all
	case api.CsrLevel:
		return &h.Level, all
	case api.CsrHart:
		return own, all
	}
	return nil, 0
}

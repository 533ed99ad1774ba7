package hart

import (
	"headstock/api"
	"headstock/wrap"
)

// The bits of a hart's status: whether interrupts are let in, and whether they were ahead of the trap; and how far the one is from the other.
const (
	letsIn = 1 << 3
	letIn  = 1 << 7
	apart  = 4
)

// Trap is a hart that traps, for a cause; Lets tells whether it lets an interrupt of a priority in.
func Trap(h api.Hart, cause int) api.Hart {
	h.EPC, h.Cause, h.PC = h.PC, wrap.Wrap(cause), h.Vector
	h.Status = h.Status&^(letsIn|letIn) | h.Status&letsIn<<apart
	return h
}

func Lets(h api.Hart, priority int) bool { return h.Status&letsIn != 0 && priority > h.Level }

// back is a hart behind InMret, back from a trap.
func back(h api.Hart) api.Hart {
	h.PC = h.EPC
	h.Status = h.Status&^letsIn | h.Status&letIn>>apart | letIn
	return h
}

package hart

import (
	"headstock/api"
	"headstock/wrap"
)

// effect is what an instruction does beyond its hart that makes no number of its own.
func effect(h api.Hart, in api.Instr) api.Effect {
	a, b := h.Regs[in.A], h.Regs[in.B]
	switch in.Op {
	case api.InLw:
		return api.Effect{Kind: api.EffectLoad, D: in.D, Address: wrap.Wrap(a + in.N)}
	case api.InSw:
		return api.Effect{Kind: api.EffectStore, Address: wrap.Wrap(a + in.N), N: b}
	case api.InFence:
		return api.Effect{Kind: api.EffectFence}
	case api.InLr:
		return api.Effect{Kind: api.EffectReserve, D: in.D, Address: a}
	case api.InSc:
		return api.Effect{Kind: api.EffectConditional, D: in.D, Address: a, N: b}
	case api.InAmoSwap:
		return api.Effect{Kind: api.EffectChange, D: in.D, Address: a, N: b}
	case api.InAmoAdd:
		return api.Effect{Kind: api.EffectChange, D: in.D, Address: a, N: b, Op: api.OpAdd}
	case api.InEcall:
		return api.Effect{Kind: api.EffectCall}
	}
	// InWfi is the only one left.
	return api.Effect{Kind: api.EffectWait}
}

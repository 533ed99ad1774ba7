package machine

import (
	"headstock/api"
	"headstock/code"
	"headstock/hart"
)

// step lets a hart do its next instruction.
func (o *own) step(c api.Choice) api.Errno {
	if err := o.stops(c.Hart); err != api.OK {
		return err
	}
	in, ok := o.next(c.Hart)
	if !ok {
		return o.end(c.Hart, api.EndCode)
	}
	h, e := hart.Step(o.Harts[c.Hart], c.Hart, in)
	return o.effect(c.Hart, h, e)
}

// next is the instruction at a hart's place; false: there is none.
func (o *own) next(id int) (api.Instr, bool) {
	at, ok := placed(o.Harts[id].PC, len(o.Words))
	if !ok {
		return api.Instr{}, false
	}
	in, err := code.Decode(o.Words[at])
	return in, err == api.OK
}

func (o *own) end(id, how int) api.Errno {
	o.Ends[id] = how
	return api.OK
}

// effect does what a hart's instruction does beyond it; h is that hart behind the instruction.
func (o *own) effect(id int, h api.Hart, e api.Effect) api.Errno {
	switch e.Kind {
	case api.EffectNone, api.EffectWait:
	case api.EffectBad:
		return o.end(id, api.EndCode)
	case api.EffectCall:
		o.Harts[id] = h
		return o.end(id, api.EndCall)
	case api.EffectFence:
		if o.isBusy(id) {
			return api.ErrBusy
		}
	default:
		n, found, err := o.reach(id, e)
		switch {
		case !found:
			return o.end(id, api.EndWhere)
		case err != api.OK:
			return err
		}
		// Of a store D is 0, where nothing is put.
		h = hart.Put(h, e.D, n)
	}
	o.Harts[id] = h
	return api.OK
}

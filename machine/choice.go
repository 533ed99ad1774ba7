package machine

import (
	"headstock/api"
	"headstock/device"
	"headstock/hart"
	"headstock/store"
)

// deeds are what choices do, by their kinds. A deed with an error has written nothing.
func deeds() map[int]func(*own, api.Choice) api.Errno {
	return map[int]func(*own, api.Choice) api.Errno{
		api.ChoiceStep:  (*own).step,
		api.ChoiceDrain: (*own).drain,
		api.ChoiceRaise: (*own).raise,
		api.ChoiceTake:  (*own).take,
		api.ChoiceInput: (*own).input,
	}
}

func (o *own) do(c api.Choice) api.Errno {
	deed, ok := deeds()[c.Kind]
	if !ok {
		return api.ErrArg
	}
	return deed(o, c)
}

func (o *own) drain(c api.Choice) api.Errno {
	// A hart that has ended drains what it has pending, too.
	m, err := store.Drain(o.Memory, c.Hart, c.Which)
	if err == api.OK {
		o.Memory = m
	}
	return err
}

func (o *own) raise(c api.Choice) api.Errno {
	if c.Which < 0 || c.Which >= len(o.Lines) {
		return api.ErrArg
	}
	o.Lines[c.Which].Raised = true
	return api.OK
}

func (o *own) take(c api.Choice) api.Errno {
	if err := o.stops(c.Hart); err != api.OK {
		return err
	}
	line := First(o.Machine, c.Hart)
	if line < 0 {
		return api.ErrNone
	}
	// The sign's bit tells an interrupt from other causes.
	const interrupt = -1 << 31
	o.Lines[line].Raised = false
	o.Harts[c.Hart] = hart.Trap(o.Harts[c.Hart], interrupt+line)
	return api.OK
}

// mayTake tells whether a line's interrupt is raised, goes to a hart, and is let in there.
func mayTake(m api.Machine, id int, l api.Line) bool {
	return l.Raised && l.Hart == id && hasHart(m, id) && hart.Lets(m.Harts[id], l.Priority)
}

func (o *own) input(c api.Choice) api.Errno {
	if c.Which < 0 || c.Which >= len(o.Devices) {
		return api.ErrArg
	}
	o.Devices[c.Which] = device.Input(o.Devices[c.Which], c.N)
	return api.OK
}

package source

import (
	"headstock/api"
	"headstock/device"
)

// do does a choice. With an error nothing is written.
func (o *own) do(c api.Choice) api.Errno {
	switch c.Kind {
	case api.ChoiceStep:
		return o.step(c.Hart)
	case api.ChoiceRaise:
		return o.raise(c.Which)
	case api.ChoiceTake:
		return o.take(c.Hart)
	case api.ChoiceInput:
		return o.input(c.Which, c.N)
	}
	return api.ErrArg
}

// step lets a hart's last work do its next deed, or end, if it has none.
func (o *own) step(hart int) api.Errno {
	if !hasHart(o.Source, hart) {
		return api.ErrArg
	}
	works := o.Works[hart]
	last := len(works) - 1
	if last < 0 {
		return api.ErrNone
	}
	if len(works[last].Left) == 0 {
		o.Works[hart] = works[:last]
		return api.OK
	}
	return actor{scope{o, &works[last]}, hart}.next()
}

func (o *own) raise(line int) api.Errno {
	if line < 0 || line >= len(o.Raised) {
		return api.ErrArg
	}
	o.Raised[line] = true
	return api.OK
}

func (o *own) take(hart int) api.Errno {
	if !hasHart(o.Source, hart) {
		return api.ErrArg
	}
	line := First(o.Source, hart)
	if line < 0 {
		return api.ErrNone
	}
	o.Raised[line] = false
	o.Works[hart] = append(o.Works[hart], begun(o.Program, handlerOf(o.Program, line)))
	return api.OK
}

func (o *own) input(which, n int) api.Errno {
	if which < 0 || which >= len(o.Devices) {
		return api.ErrArg
	}
	o.Devices[which] = device.Input(o.Devices[which], n)
	return api.OK
}

package device

import (
	"slices"

	"headstock/api"
)

// model is what a kind makes of a state: its registers are those that there are, and its numbers are cut.
type model interface {
	read(reg int) int
	write(reg, n int)
	input(n int)
	told() api.State
}

// modelOf has a queue of its own, so that a model may write into it.
func modelOf(s api.State) model {
	own := state{s}
	own.Queue = slices.Clone(s.Queue)
	switch s.Kind {
	case api.DeviceUart:
		return &uart{own}
	case api.DeviceTimer:
		return &timer{own}
	case api.DeviceGpio:
		return &gpio{own}
	}
	return &none{own}
}

// state is what all kinds have: a register tells what it keeps, if its kind does not say otherwise.
type state struct{ api.State }

func (s *state) read(reg int) int { return s.Regs[reg] }

func (s *state) keep(reg, n int) { s.Regs[reg] = n }

// enabled tells whether register 2, of a kind where it does that, lets the interrupt be raised.
func (s *state) enabled() bool { return s.Regs[2]&1 == 1 }

func (s *state) told() api.State { return s.State }

// none is a device of a kind that there is not.
type none struct{ state }

func (*none) read(int) int { return 0 }

func (*none) write(int, int) {}

func (*none) input(int) {}

package machine

import (
	"slices"

	"headstock/api"
)

// own is a machine all lists of which are its own, so that a choice may write into them.
type own struct{ api.Machine }

func owned(m api.Machine) *own {
	return &own{api.Machine{
		Words:   slices.Clone(m.Words),
		Harts:   slices.Clone(m.Harts),
		Ends:    slices.Clone(m.Ends),
		Memory:  ownedMemory(m.Memory),
		Devices: ownedDevices(m.Devices),
		Lines:   slices.Clone(m.Lines),
		Trace:   slices.Clone(m.Trace),
	}}
}

func ownedMemory(m api.Memory) api.Memory {
	pending := make([][]api.Entry, len(m.Pending))
	for i, l := range m.Pending {
		pending[i] = slices.Clone(l)
	}
	return api.Memory{Words: slices.Clone(m.Words), Pending: pending, Reserved: slices.Clone(m.Reserved)}
}

func ownedDevices(l []api.State) []api.State {
	l = slices.Clone(l)
	for i := range l {
		l[i].Queue = slices.Clone(l[i].Queue)
	}
	return l
}

func hasHart(m api.Machine, id int) bool {
	// In machines that calls told these are of one length.
	return id >= 0 && id < min(len(m.Harts), len(m.Ends), len(m.Memory.Pending))
}

// stops is what keeps a hart from going on.
func (o *own) stops(id int) api.Errno {
	switch {
	case !hasHart(o.Machine, id):
		return api.ErrArg
	case o.Ends[id] != api.EndNot:
		return api.ErrEnded
	}
	return api.OK
}

// isBusy tells whether a hart has stores pending.
func (o *own) isBusy(id int) bool { return len(o.Memory.Pending[id]) > 0 }

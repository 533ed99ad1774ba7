package machine

import (
	"headstock/api"
	"headstock/device"
	"headstock/store"
	"headstock/wrap"
)

// How many bytes a word has, be it of code, of memory or of a device, and how many of them each device has for itself.
const (
	wordBytes   = 4
	deviceBytes = 256
)

// placed is which one of so many words stands there, in bytes from their beginning on; false: none.
func placed(at, words int) (int, bool) {
	return at / wordBytes, at >= 0 && at%wordBytes == 0 && at/wordBytes < words
}

// registered are the device and the register of an address; false: there are none.
func (o *own) registered(address int) (int, int, bool) {
	at := address - api.DeviceBase
	which, reg := at/deviceBytes, at%deviceBytes/wordBytes
	return which, reg, at >= 0 && at%wordBytes == 0 && which < len(o.Devices) && reg < api.MaxRegs
}

// reach does what goes to an address, and is what that tells for a register; false: nothing stands at the address that this may go to.
func (o *own) reach(id int, e api.Effect) (int, bool, api.Errno) {
	if at, ok := placed(e.Address-api.MemoryBase, len(o.Memory.Words)); ok {
		n, err := o.reachWord(id, at, e)
		return n, true, err
	}
	which, reg, ok := o.registered(e.Address)
	if !ok || e.Kind != api.EffectLoad && e.Kind != api.EffectStore {
		return 0, false, api.OK
	}
	n, err := o.reachRegister(id, which, reg, e)
	return n, true, err
}

func (o *own) reachWord(id, at int, e api.Effect) (int, api.Errno) {
	n, m, err := 0, o.Memory, api.OK
	switch e.Kind {
	case api.EffectLoad:
		n, err = store.Load(m, id, at)
	case api.EffectStore:
		m, err = store.Store(m, id, at, e.N)
	case api.EffectReserve:
		n, m, err = store.Reserve(m, id, at)
	case api.EffectConditional:
		var stored bool
		stored, m, err = store.Conditional(m, id, at, e.N)
		n = failed(stored)
	case api.EffectChange:
		n, m, err = store.Change(m, id, at, e.Op, e.N)
	}
	if err == api.OK {
		o.Memory = m
	}
	return n, err
}

// failed is what a hart is told of a conditional store.
func failed(stored bool) int {
	if stored {
		return 0
	}
	return 1
}

func (o *own) reachRegister(id, which, reg int, e api.Effect) (int, api.Errno) {
	if o.isBusy(id) {
		return 0, api.ErrBusy
	}
	x := api.Access{Hart: id, Device: which, Reg: reg, Write: e.Kind == api.EffectStore, N: wrap.Wrap(e.N)}
	if x.Write {
		o.Devices[which] = device.Write(o.Devices[which], reg, x.N)
	} else {
		x.N, o.Devices[which] = device.Read(o.Devices[which], reg)
	}
	o.Trace = append(o.Trace, x)
	return x.N, api.OK
}

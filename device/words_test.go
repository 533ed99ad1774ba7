package device_test

import (
	"math"
	"math/rand"
	"slices"
	"strconv"
	"strings"
	"testing"

	"headstock/api"
	"headstock/device"
)

// What the chapter's words say, written out here by themselves: a device is told by all that was done to it, from its beginning on.

// act is one thing done to a device: 'r' its register is read, 'w' it is written with n, 'i' it is handed n.
type act struct {
	do     byte
	reg, n int
}

func read(reg int) act     { return act{do: 'r', reg: reg} }
func write(reg, n int) act { return act{'w', reg, n} }
func input(n int) act      { return act{do: 'i', n: n} }

type past []act

func (p past) String() string {
	var s []string
	for _, x := range p {
		s = append(s, string(x.do)+" "+strconv.Itoa(x.reg)+" "+strconv.Itoa(x.n))
	}
	return strings.Join(s, ", ")
}

// cut is a number's lowest 32 bits, with their sign.
func cut(n int) int {
	const all = 1 << 32
	n = (n%all + all) % all
	if n >= all/2 {
		return n - all
	}
	return n
}

// hasBit tells whether a bit of a number, from 0 on, is 1.
func hasBit(n, bit int) bool { return uint32(n)>>bit%2 == 1 }

// keeps tells which registers keep what is written.
func keeps(kind, reg int) bool {
	switch kind {
	case api.DeviceUart:
		return reg == 2
	case api.DeviceTimer:
		return reg == 1 || reg == 2
	case api.DeviceGpio:
		return reg == 0 || reg == 2
	}
	return false
}

// kept is what was written into a register last.
func (p past) kept(reg int) int {
	for _, x := range slices.Backward(p) {
		if x.do == 'w' && x.reg == reg {
			return cut(x.n)
		}
	}
	return 0
}

// queue is what a uart was handed while there was room, less what was read.
func (p past) queue() []int {
	var in []int
	out := 0
	for _, x := range p {
		switch {
		case x.do == 'i' && len(in)-out < 16:
			in = append(in, (x.n%256+256)%256)
		case x.do == 'r' && x.reg == 0 && out < len(in):
			out++
		}
	}
	return in[out:]
}

func (p past) sent() int {
	n := 0
	for _, x := range p {
		if x.do == 'w' && x.reg == 0 {
			n++
		}
	}
	return n
}

// inputs are all that was handed in, cut.
func (p past) inputs() []int {
	var l []int
	for _, x := range p {
		if x.do == 'i' {
			l = append(l, cut(x.n))
		}
	}
	return l
}

// isDue tells whether a timer raises its interrupt: it looks from the end on for what set it last.
func (p past) isDue() bool {
	for i, x := range slices.Backward(p) {
		if x.do == 'w' && x.reg == 3 {
			return false
		}
		if upTo := p[:i+1]; x.do == 'i' && len(upTo.inputs()) == upTo.kept(1) && hasBit(upTo.kept(2), 0) {
			return true
		}
	}
	return false
}

// last is what was handed in last.
func (p past) last() int {
	if l := p.inputs(); len(l) > 0 {
		return l[len(l)-1]
	}
	return 0
}

// hasChanged tells whether a gpio's bit has: it looks from the end on for what set it last.
func (p past) hasChanged(bit int) bool {
	for i, x := range slices.Backward(p) {
		if x.do == 'w' && x.reg == 3 && hasBit(x.n, bit) {
			return false
		}
		if x.do == 'i' && hasBit(x.n, bit) != hasBit(p[:i].last(), bit) && hasBit(p[:i].kept(2), bit) {
			return true
		}
	}
	return false
}

func (p past) changed() int {
	var bits uint32
	for bit := range 32 {
		if p.hasChanged(bit) {
			bits |= 1 << bit
		}
	}
	return int(int32(bits))
}

// wantRead is what a register tells.
func (p past) wantRead(kind, reg int) int {
	switch {
	case keeps(kind, reg):
		return p.kept(reg)
	case kind == api.DeviceUart && reg == 0:
		return append(slices.Clone(p.queue()), -1)[0]
	case kind == api.DeviceUart && reg == 1:
		return 2 + min(len(p.queue()), 1)
	case kind == api.DeviceUart && reg == 3:
		return p.sent()
	case kind == api.DeviceTimer && reg == 0:
		return len(p.inputs())
	case kind == api.DeviceTimer && reg == 3 && p.isDue():
		return 1
	case kind == api.DeviceGpio && reg == 1:
		return p.last()
	case kind == api.DeviceGpio && reg == 3:
		return p.changed()
	}
	return 0
}

func (p past) wantRaised(kind int) bool {
	switch kind {
	case api.DeviceUart:
		return len(p.queue()) > 0 && hasBit(p.kept(2), 0)
	case api.DeviceTimer:
		return p.isDue()
	case api.DeviceGpio:
		return p.changed() != 0
	}
	return false
}

// someRegs are registers that there are, then such as there are not.
var someRegs = []int{0, 1, 2, 3, 4, 5, 8, -1, -4, 1 << 32, 1<<32 + 2, -1 << 32, math.MaxInt, math.MinInt}

// someKinds are kinds that there are, then such as there are not.
var someKinds = []int{api.DeviceUart, api.DeviceTimer, api.DeviceGpio, 0, 4, 5, -1, -2, 1<<32 + 1, -1<<32 + 1, 257, math.MaxInt, math.MinInt}

// someNumbers are some that are cut, and some that are not.
var someNumbers = []int{0, 1, 2, 3, -1, -2, 65, 254, 255, 256, 257, -255, -256, 1<<31 - 1, 1 << 31, 1<<31 + 1, -1 << 31, -1<<31 - 1, 1<<32 - 1, 1 << 32, 1<<32 + 1, 0x5555_5555, 0xaaaa_aaaa, 5<<40 + 7, math.MaxInt, math.MinInt}

// is holds all that a device tells against the words.
func is(t *testing.T, s api.State, kind int, p past) {
	t.Helper()
	if !slices.Contains(someKinds[:3], kind) {
		kind = 0
	}
	raised := p.wantRaised(kind)
	if s.Kind != kind || s.Raised != raised || device.Raises(s) != raised {
		t.Fatalf("kind %d, %v, %v, not kind %d, %v: %v", s.Kind, s.Raised, device.Raises(s), kind, raised, p)
	}
	var queue []int
	sent := 0
	if kind == api.DeviceUart {
		queue, sent = p.queue(), p.sent()
	}
	if !slices.Equal(s.Queue, queue) || s.Sent != sent {
		t.Fatalf("kind %d: queue %v, %v sent, not %v, %v: %v", kind, s.Queue, s.Sent, queue, sent, p)
	}
	for _, reg := range someRegs[:4] {
		if got, want := first(device.Read(s, reg)), p.wantRead(kind, reg); got != want {
			t.Fatalf("kind %d, register %d: %d, not %d: %v", kind, reg, got, want, p)
		}
	}
}

func first(n int, _ api.State) int        { return n }
func behind(_ int, s api.State) api.State { return s }

// done is a device to which something was done, and what that told (0 of all but reads).
func done(s api.State, x act) (int, api.State) {
	switch x.do {
	case 'r':
		return device.Read(s, x.reg)
	case 'w':
		return 0, device.Write(s, x.reg, x.n)
	}
	return 0, device.Input(s, x.n)
}

// after is a device of a kind to which all of that was done.
func after(kind int, p ...act) api.State {
	s := device.New(kind)
	for _, x := range p {
		_, s = done(s, x)
	}
	return s
}

// holds does all of it to a new device, and holds what is told all the way against the words.
func holds(t *testing.T, kind int, p ...act) {
	t.Helper()
	s := device.New(kind)
	is(t, s, kind, nil)
	for i, x := range p {
		var n int
		n, s = done(s, x)
		if x.do == 'r' && n != past(p[:i]).wantRead(s.Kind, x.reg) {
			t.Fatalf("kind %d: %d: %v", kind, n, past(p[:i+1]))
		}
		is(t, s, kind, p[:i+1])
	}
}

// chance is things to do, by chance.
type chance struct{ *rand.Rand }

// number is some number: often a small one, or one at an edge.
func (c *chance) number() int {
	switch c.Intn(7) {
	case 0:
		return someNumbers[c.Intn(len(someNumbers))]
	case 1:
		return 1 << c.Intn(34)
	case 2:
		return int(c.Uint64())
	}
	return c.Intn(5)
}

func (c *chance) reg() int {
	if c.Intn(20) == 0 {
		return someRegs[c.Intn(len(someRegs))]
	}
	return c.Intn(4)
}

func (c *chance) act() act {
	switch c.Intn(5) {
	case 0:
		return read(c.reg())
	case 1, 2:
		return write(c.reg(), c.number())
	}
	return input(c.number())
}

// actBehind is one to be done behind that past: a timer's register 1 is often not far ahead of how often something was handed in.
func (c *chance) actBehind(kind int, p past) act {
	if kind == api.DeviceTimer && c.Intn(4) == 0 {
		return write(1, len(p.inputs())+c.Intn(3))
	}
	return c.act()
}

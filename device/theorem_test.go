package device_test

import (
	"math"
	"math/rand"
	"slices"
	"testing"

	"headstock/api"
	"headstock/device"
)

// G2 to G4: all short pasts, of what matters to a kind, by the words.
func TestShortPasts(t *testing.T) {
	for kind, acts := range map[int][]act{
		api.DeviceUart:  {input(65), input(-1), read(0), read(1), write(0, 7), write(2, 1), write(2, 2), write(3, 1)},
		api.DeviceTimer: {input(0), read(3), write(0, 1), write(1, 1), write(1, 2), write(2, 1), write(2, 2), write(3, 0)},
		api.DeviceGpio:  {input(0), input(3), input(6), read(3), write(0, 6), write(2, 2), write(2, -1), write(3, 2), write(1, 7)},
		0:               {input(1), read(0), write(2, 1), write(0, 1)},
	} {
		goOn(t, device.New(kind), kind, nil, acts, 4)
	}
}

// goOn does each of these so many times one behind the other.
func goOn(t *testing.T, s api.State, kind int, p past, acts []act, left int) {
	t.Helper()
	is(t, s, kind, p)
	if left == 0 {
		return
	}
	for _, x := range acts {
		n, behind := done(s, x)
		if x.do == 'r' && n != p.wantRead(kind, x.reg) {
			t.Fatalf("kind %d: %d behind %v", kind, n, append(slices.Clone(p), x))
		}
		goOn(t, behind, kind, append(slices.Clone(p), x), acts, left-1)
	}
}

// G2 to G4: long pasts by chance, by the words.
func TestLongPasts(t *testing.T) {
	c := &chance{rand.New(rand.NewSource(51))}
	raised, steps := map[int]int{}, map[int]int{}
	for i := range 600 {
		kind := someKinds[i%4]
		var p past
		for range c.Intn(60) {
			p = append(p, c.actBehind(kind, p))
			steps[kind]++
			if p.wantRaised(kind) {
				raised[kind]++
			}
		}
		holds(t, kind, p...)
	}
	for _, kind := range someKinds[:3] {
		if raised[kind] < 100 || steps[kind]-raised[kind] < 100 {
			t.Errorf("kind %d: %d raised of %d", kind, raised[kind], steps[kind])
		}
	}
}

// R4: what is told hangs on the device alone that is handed in: of many, older ones go on, too, and are what they were.
func TestManyGoOn(t *testing.T) {
	c := &chance{rand.New(rand.NewSource(52))}
	type told struct {
		s    api.State
		kind int
		p    past
	}
	var all []told
	for _, kind := range someKinds[:3] {
		all = append(all, told{device.New(kind), kind, nil})
	}
	for range 1500 {
		from := all[c.Intn(len(all))]
		x := c.actBehind(from.kind, from.p)
		p := append(slices.Clone(from.p), x)
		n, s := done(from.s, x)
		if x.do == 'r' && n != from.p.wantRead(from.kind, x.reg) {
			t.Fatalf("kind %d: %d behind %v", from.kind, n, p)
		}
		all = append(all, told{s, from.kind, p})
	}
	for _, x := range all {
		is(t, x.s, x.kind, x.p)
	}
}

// G6: what was written into a register that keeps it is read, whatever else was done since.
func TestKept(t *testing.T) {
	c := &chance{rand.New(rand.NewSource(53))}
	for _, s := range someStates() {
		for _, reg := range someRegs[:4] {
			if !keeps(s.Kind, reg) {
				continue
			}
			for _, n := range someNumbers {
				told := device.Write(s, reg, n)
				for range 8 {
					if got := first(device.Read(told, reg)); got != cut(n) {
						t.Fatalf("%d, not %d, of register %d of %v", got, cut(n), reg, told)
					}
					if x := c.act(); x.do != 'w' || x.reg != reg {
						_, told = done(told, x)
					}
				}
			}
		}
	}
}

// G6: a uart tells all that it was handed, in order, up to 16 at once.
func TestAllTold(t *testing.T) {
	c := &chance{rand.New(rand.NewSource(54))}
	for range 500 {
		s := device.Write(device.New(api.DeviceUart), 2, c.Intn(2))
		var in, out []int
		for range c.Intn(80) {
			for range c.Intn(17 - (len(in) - len(out))) {
				n := c.number()
				in, s = append(in, int(byte(n))), device.Input(s, n)
			}
			for range c.Intn(len(in) - len(out) + 1) {
				var n int
				n, s = device.Read(s, 0)
				out = append(out, n)
			}
			s = device.Write(s, c.Intn(2), c.number())
		}
		for first(device.Read(s, 1)) == 3 {
			var n int
			n, s = device.Read(s, 0)
			out = append(out, n)
		}
		if n := first(device.Read(s, 0)); n != -1 || !slices.Equal(in, out) {
			t.Fatalf("%v, then %d, not %v", out, n, in)
		}
	}
}

// G6: a read, but a uart's first one, changes nothing that any other one tells; a uart's first one changes what is said of its queue alone.
func TestReadsChangeNothing(t *testing.T) {
	for _, s := range someStates() {
		for _, a := range someRegs {
			n, told := device.Read(s, a)
			takes := s.Kind == api.DeviceUart && a == 0
			if !takes && (!device.Same(told, s) || first(device.Read(told, a)) != n) {
				t.Errorf("register %d: %v, of %v", a, told, s)
			}
			for _, b := range someRegs {
				isOfQueue := takes && (b == 0 || b == 1)
				if got, want := first(device.Read(told, b)), first(device.Read(s, b)); !isOfQueue && got != want {
					t.Errorf("register %d behind %d: %d, not %d, of %v", b, a, got, want, s)
				}
			}
		}
	}
}

// everyCall is what all calls told of a device, and of the numbers that they were given.
func everyCall(s api.State) []api.State {
	var l []api.State
	for _, reg := range []int{0, 1, 2, 3, 4, -1} {
		l = append(l, behind(device.Read(s, reg)), device.Write(s, reg, 1), device.Write(s, reg, 6))
	}
	return append(l, device.Input(s, 77), device.Input(s, 0))
}

// withRoom is the device with spare room behind its queue, in which something stands.
func withRoom(s api.State) api.State {
	s.Queue = append(slices.Clone(s.Queue), 91, 92, 93)[:len(s.Queue)]
	return s
}

// R3: what is handed in is not written into, nor is what stands behind its length.
func TestNotWritten(t *testing.T) {
	for _, s := range someStates() {
		s = withRoom(s)
		all := s.Queue[:len(s.Queue)+3]
		before, beforeAll := s, slices.Clone(all)
		before.Queue = slices.Clone(s.Queue)
		everyCall(s)
		device.Raises(s)
		device.Same(s, before)
		device.Same(before, s)
		if !device.Same(s, before) || !slices.Equal(all, beforeAll) {
			t.Errorf("%v, %v, not %v, %v", s, all, before, beforeAll)
		}
	}
}

// R3: who owns an answer may write into it and grow it, and who handed something in may write into that: no other answer is changed.
func TestOwn(t *testing.T) {
	for _, s := range someStates() {
		s = withRoom(s)
		want, got := everyCall(s), everyCall(s)
		for i := range want {
			want[i].Queue = slices.Clone(want[i].Queue)
		}
		spoil := func(l []int) {
			l = append(l, 99)
			l = l[:cap(l)]
			for i := range l {
				l[i] = 99
			}
		}
		before, all := slices.Clone(s.Queue), s.Queue[:len(s.Queue)+3]
		for i, one := range got {
			grown := append(one.Queue, 98)
			spoil(one.Queue)
			spoil(grown)
			for k := i + 1; k < len(got); k++ {
				if !device.Same(got[k], want[k]) {
					t.Fatalf("answer %d changed answer %d: %v, not %v", i, k, got[k], want[k])
				}
			}
		}
		if !slices.Equal(s.Queue, before) || !slices.Equal(all[len(before):], []int{91, 92, 93}) {
			t.Fatalf("an answer changed what was handed in: %v", all)
		}
		got = everyCall(s)
		for i := range all {
			all[i] = 99
		}
		for i := range got {
			if !device.Same(got[i], want[i]) {
				t.Fatalf("what was handed in changed answer %d: %v, not %v", i, got[i], want[i])
			}
		}
	}
}

// R1: no call panics, not even of what no call told, and each ends.
func TestNoneFails(t *testing.T) {
	long := make([]int, 40)
	for i := range long {
		long[i] = math.MinInt + i
	}
	for _, kind := range someKinds {
		for _, n := range someNumbers {
			for _, queue := range [][]int{nil, {}, {n}, long} {
				s := api.State{Kind: kind, Regs: [4]int{n, n, n, n}, Queue: queue, Sent: n, Raised: n > 0}
				for _, reg := range someRegs {
					device.Read(s, reg)
					device.Write(s, reg, n)
				}
				device.Input(s, n)
				device.Raises(s)
				if !device.Same(s, s) {
					t.Errorf("not the same as itself: %v", s)
				}
			}
		}
	}
}

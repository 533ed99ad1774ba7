package hart_test

import (
	"math/rand"
	"slices"
	"testing"

	"headstock/api"
	"headstock/code"
	"headstock/hart"
	"headstock/wrap"
)

// ends are the numbers that an instruction of a row is tried with: both ends, those beside them, and some between.
func (x row) ends() []int {
	var l []int
	for _, n := range []int{x.least, x.least + 1, x.least + 2, -1, 0, 1, 2, x.most / 2, x.most - 1, x.most} {
		if n >= x.least && n <= x.most {
			l = append(l, n)
		}
	}
	if x.has == "DAN" && x.most == 4095 {
		l = append(l, controls[:]...)
	}
	slices.Sort(l)
	return slices.Compact(l)
}

// H2 and H3: each instruction, its registers all that two or three may be to one another, its number at the ends, of pairs of numbers.
func TestEachByWords(t *testing.T) {
	c := &chance{rand.New(rand.NewSource(141))}
	for _, x := range rows() {
		for _, r := range [][3]int{{0, 0, 0}, {5, 6, 7}, {5, 7, 6}, {6, 6, 7}, {7, 6, 7}, {6, 6, 6}, {5, 6, 6}, {0, 6, 7}, {5, 0, 7}, {5, 6, 0}, {31, 7, 6}} {
			in := api.Instr{Op: x.op}
			if x.is('D') {
				in.D = r[0]
			}
			if x.is('A') {
				in.A = r[1]
			}
			if x.is('B') {
				in.B = r[2]
			}
			for _, in.N = range x.ends() {
				for _, a := range someNumbers {
					h := c.hart()
					h.Regs[6] = a
					for _, b := range []int{h.Regs[7], 0, -1, a, someNumbers[c.Intn(len(someNumbers))]} {
						h.Regs[7] = b
						is(t, h, c.Intn(4), in)
					}
				}
			}
		}
	}
}

// H2: all pairs of numbers, for what is made of two, and for branches.
func TestPairsByWords(t *testing.T) {
	for _, x := range rows() {
		if x.has != "DAB" && x.has != "ABN" {
			continue
		}
		in := api.Instr{Op: x.op, A: 6, B: 7}
		if x.is('D') {
			in.D = 5
		}
		if x.is('N') {
			in.N = -8
		}
		for _, a := range someNumbers {
			for _, b := range someNumbers {
				is(t, of(a, b), 0, in)
			}
		}
	}
}

// H2, H3, H5: long pasts by chance: each instruction and each effect comes about, x0 stays 0, and a hart stays one of those of which something is promised.
func TestLongPasts(t *testing.T) {
	c := &chance{rand.New(rand.NewSource(142))}
	ops, kinds := map[int]int{}, map[int]int{}
	for range 300 {
		h := c.hart()
		for range 200 {
			in := c.instr()
			if c.Intn(20) == 0 {
				h = hart.Trap(h, int(c.Uint64()))
			}
			if c.Intn(20) == 0 {
				in.D += c.Intn(2) * c.Intn(64)
			}
			var e api.Effect
			if h, e = is(t, h, c.Intn(4), in); !isSuch(h) {
				t.Fatalf("%v: %v", in, h)
			}
			if e.Kind == api.EffectLoad || e.Kind == api.EffectReserve || e.Kind == api.EffectConditional || e.Kind == api.EffectChange {
				h = hart.Put(h, e.D, int(c.Uint64()))
			}
			ops[in.Op]++
			kinds[e.Kind]++
		}
	}
	for op := api.InLui; op <= api.InAmoAdd; op++ {
		if ops[op] < 100 {
			t.Errorf("%s: %d times", code.Name(op), ops[op])
		}
	}
	for kind := api.EffectNone; kind <= api.EffectBad; kind++ {
		if kinds[kind] < 100 {
			t.Errorf("effect %d: %d times", kind, kinds[kind])
		}
	}
}

// H5: x0 stays 0, whatever is put there.
func TestNought(t *testing.T) {
	for _, x := range rows() {
		for _, n := range x.ends() {
			for _, a := range someNumbers {
				in := api.Instr{Op: x.op, N: n}
				if x.is('A') {
					in.A = 6
				}
				if x.is('B') {
					in.B = 7
				}
				h := of(a, 3)
				got, _ := hart.Step(h, 3, in)
				if got.Regs != h.Regs || !isSuch(got) {
					t.Fatalf("%v: %v, of %v", in, got, h)
				}
			}
		}
	}
	if h := hart.Put(api.Hart{}, 0, 5); h != (api.Hart{}) {
		t.Error(h)
	}
}

// names tells which control registers an instruction has to do with: a bit each, by their places in controls.
func names(in api.Instr) int {
	switch in.Op {
	case api.InMret:
		return 1<<slices.Index(controls[:], api.CsrStatus) | 1<<slices.Index(controls[:], api.CsrEPC)
	case api.InCsrrw, api.InCsrrs, api.InCsrrc:
		if i := slices.Index(controls[:], in.N); i >= 0 {
			return 1 << i
		}
	}
	return 0
}

// H5: all else that an instruction does not name stays, and does not matter.
func TestAllElseStays(t *testing.T) {
	c := &chance{rand.New(rand.NewSource(143))}
	for range 20000 {
		h, in := c.hart(), c.instr()
		got, e := hart.Step(h, 1, in)
		other, behind := h, got
		for r := 1; r < api.Regs; r++ {
			if r != code.Writes(in) && got.Regs[r] != h.Regs[r] {
				t.Fatalf("%v: x%d of %v", in, r, got)
			}
			if !slices.Contains(code.Reads(in), r) && r != code.Writes(in) {
				n := c.number()
				other, behind = hart.Put(other, r, n), hart.Put(behind, r, n)
			}
		}
		for i, number := range controls[:6] {
			if names(in)&(1<<i) != 0 {
				continue
			}
			n := c.number()
			if number == api.CsrStatus {
				n &= 136
			}
			if *control(&got, number) != *control(&h, number) {
				t.Fatalf("%v: control register %#x of %v", in, number, got)
			}
			*control(&other, number), *control(&behind, number) = n, n
		}
		if told, effect := hart.Step(other, 1, in); told != behind || effect != e {
			t.Fatalf("%v: %v, %v, not %v, %v", in, told, effect, behind, e)
		}
	}
}

// H5: an instruction, but InAuipc, jumps and branches, does the same wherever it stands.
func TestAnywhere(t *testing.T) {
	c := &chance{rand.New(rand.NewSource(144))}
	for range 5000 {
		h, in := c.hart(), c.instr()
		switch in.Op {
		case api.InAuipc, api.InJal, api.InJalr, api.InMret, api.InBeq, api.InBne, api.InBlt, api.InBge, api.InBltu, api.InBgeu:
			continue
		}
		got, e := hart.Step(h, 1, in)
		if to := cut(h.PC + 4); e.Kind != api.EffectBad && got.PC != to || e.Kind == api.EffectBad && got.PC != h.PC {
			t.Fatalf("%v: %v, of %v", in, got, h)
		}
		far := h
		far.PC = c.number()
		told, effect := hart.Step(far, 1, in)
		told.PC = got.PC
		if told != got || effect != e {
			t.Fatalf("%v: %v, %v, not %v, %v", in, told, effect, got, e)
		}
	}
}

// H5: a trap, and InMret behind it, bring PC back, and whether interrupts are let in; between them none are.
func TestThereAndBack(t *testing.T) {
	c := &chance{rand.New(rand.NewSource(145))}
	for range 2000 {
		h := c.hart()
		there := hart.Trap(h, int(c.Uint64()))
		if !isSuch(there) || hart.Lets(there, 1<<40) {
			t.Fatalf("%v, of %v", there, h)
		}
		got, e := hart.Step(there, 0, api.Instr{Op: api.InMret})
		if got.PC != h.PC || got.Status&8 != h.Status&8 || e != (api.Effect{}) || !isSuch(got) {
			t.Fatalf("%v, of %v", got, h)
		}
		if hart.Lets(got, h.Level+1) != (h.Status&8 != 0) || hart.Lets(got, h.Level) {
			t.Fatalf("lets in other interrupts: %v, of %v", got, h)
		}
		h.Status, h.EPC, h.Cause = got.Status, got.EPC, got.Cause
		if got != h {
			t.Fatalf("%v, not %v", got, h)
		}
	}
}

// H5: a trap within a trap, whose handler keeps EPC and the status in registers, as they were.
func TestTrapWithin(t *testing.T) {
	for _, status := range []int{0, 8, 128, 136} {
		h := someHart()
		h.Status = status
		got := run(t, hart.Trap(h, 3),
			ins(api.InCsrrs, 5, 0, 0, api.CsrEPC), ins(api.InCsrrs, 6, 0, 0, api.CsrStatus), ins(api.InAddi, 7, 0, 0, 8), ins(api.InCsrrs, 0, 7, 0, api.CsrStatus))
		if !hart.Lets(got, 4) || hart.Lets(got, 3) {
			t.Errorf("status %d: %v", status, got)
		}
		got = hart.Trap(got, 4)
		if got.EPC != 0x110 || got.Cause != 4 || got.PC != 0x100 || got.Status != 128 {
			t.Errorf("status %d: %v", status, got)
		}
		got = run(t, got, ins(api.InMret, 0, 0, 0, 0))
		if got.PC != 0x110 || got.Status != 136 {
			t.Errorf("status %d: %v", status, got)
		}
		got = run(t, got, ins(api.InCsrrw, 0, 5, 0, api.CsrEPC), ins(api.InCsrrw, 0, 6, 0, api.CsrStatus), ins(api.InMret, 0, 0, 0, 0))
		if got.PC != 0x4000 || got.Status&8 != status&8 {
			t.Errorf("status %d: %v", status, got)
		}
	}
}

// run does instructions one behind the other, each of which has no effect.
func run(t *testing.T, h api.Hart, l ...api.Instr) api.Hart {
	t.Helper()
	for _, in := range l {
		var e api.Effect
		if h, e = is(t, h, 0, in); e != (api.Effect{}) {
			t.Fatalf("%v: %v", in, e)
		}
	}
	return h
}

// H5: what operators of chapter 1 make, instructions make: those that have one, and some together.
func TestOperators(t *testing.T) {
	two := func(op int) []api.Instr { return []api.Instr{ins(op, 5, 6, 7, 0)} }
	for op, l := range map[int][]api.Instr{
		api.OpAdd: two(api.InAdd), api.OpSub: two(api.InSub), api.OpMul: two(api.InMul), api.OpDiv: two(api.InDiv), api.OpRem: two(api.InRem),
		api.OpAnd: two(api.InAnd), api.OpOr: two(api.InOr), api.OpXor: two(api.InXor), api.OpShl: two(api.InSll), api.OpShr: two(api.InSra), api.OpLt: two(api.InSlt), api.OpLess: two(api.InSltu),
		api.OpEq:  {ins(api.InXor, 5, 6, 7, 0), ins(api.InSltiu, 5, 5, 0, 1)},
		api.OpNe:  {ins(api.InXor, 5, 6, 7, 0), ins(api.InSltu, 5, 0, 5, 0)},
		api.OpNeg: {ins(api.InSub, 5, 0, 6, 0)},
		api.OpNot: {ins(api.InSltiu, 5, 6, 0, 1)},
		api.OpInv: {ins(api.InXori, 5, 6, 0, -1)},
	} {
		for _, a := range someNumbers {
			for _, b := range someNumbers {
				want, ok := wrap.Two(op, a, b)
				if !ok {
					want, ok = wrap.One(op, a)
				}
				if got := run(t, of(a, b), l...); got.Regs[5] != want || !ok {
					t.Fatalf("operator %d of %d and %d: %d, not %d", op, a, b, got.Regs[5], want)
				}
			}
		}
	}
}

// H5: what operators make of a number that stands in the instruction, and which branches tell the same as they do.
func TestOperatorsOfNumbers(t *testing.T) {
	for _, a := range someNumbers {
		for _, n := range someNumbers {
			for in, op := range map[int]int{api.InAddi: api.OpAdd, api.InXori: api.OpXor, api.InOri: api.OpOr, api.InAndi: api.OpAnd, api.InSlli: api.OpShl, api.InSrai: api.OpShr, api.InSlti: api.OpLt, api.InSltiu: api.OpLess} {
				isMove := in == api.InSlli || in == api.InSrai
				if n < -2048 || n > 2047 || isMove && (n < 0 || n > 31) {
					continue
				}
				want, _ := wrap.Two(op, a, n)
				if got := run(t, of(a, 9), ins(in, 5, 6, 0, n)); got.Regs[5] != want {
					t.Fatalf("%s of %d and %d: %d, not %d", code.Name(in), a, n, got.Regs[5], want)
				}
			}
			for in, x := range map[int]struct{ op, goes int }{api.InBeq: {api.OpEq, 1}, api.InBne: {api.OpNe, 1}, api.InBlt: {api.OpLt, 1}, api.InBge: {api.OpLt, 0}, api.InBltu: {api.OpLess, 1}, api.InBgeu: {api.OpLess, 0}} {
				tells, _ := wrap.Two(x.op, a, n)
				if got := run(t, of(a, n), ins(in, 0, 6, 7, 64)); (got.PC == 0x4040) != (tells == x.goes) {
					t.Fatalf("%s of %d and %d: %#x", code.Name(in), a, n, got.PC)
				}
			}
		}
	}
}

// H2: any number is brought to a register by two instructions, and both halves of a product, quotient and rest are the numbers they are of.
func TestTogether(t *testing.T) {
	for _, a := range someNumbers {
		low := (a+2048)&4095 - 2048
		upper := (a - low) >> 12 & (1<<20 - 1)
		if got := run(t, someHart(), ins(api.InLui, 5, 0, 0, upper), ins(api.InAddi, 5, 5, 0, low)); got.Regs[5] != a {
			t.Errorf("%d is brought as %d", a, got.Regs[5])
		}
		for _, b := range someNumbers {
			for _, l := range [][2]int{{api.InDiv, api.InRem}, {api.InDivu, api.InRemu}} {
				got := run(t, of(a, b), ins(l[0], 5, 6, 7, 0), ins(l[1], 8, 6, 7, 0), ins(api.InMul, 5, 5, 7, 0), ins(api.InAdd, 5, 5, 8, 0))
				if got.Regs[5] != a {
					t.Fatalf("%s of %d and %d: %d", code.Name(l[0]), a, b, got.Regs[5])
				}
			}
			got := run(t, of(a, b), ins(api.InMulh, 5, 6, 7, 0), ins(api.InMulhu, 8, 6, 7, 0), ins(api.InMul, 9, 6, 7, 0))
			if low := int(uint32(got.Regs[9])); got.Regs[5]<<32+low != a*b || uint64(uint32(got.Regs[8]))<<32+uint64(low) != uint64(uint32(a))*uint64(uint32(b)) {
				t.Fatalf("%d times %d: %v", a, b, got)
			}
		}
	}
}

// H2: a routine, of words, that is called: the greatest number that divides both, which have no signs.
func TestRoutine(t *testing.T) {
	words := []int{
		0x00c000ef, // jal x1, 12
		0x00000073, // ecall
		0x00000013, // addi x0, x0, 0
		0x00038863, // 12: beq x7, x0, 16
		0x02737433, // remu x8, x6, x7
		0x00038313, // addi x6, x7, 0
		0x0080006f, // jal x0, 8
		0x00008067, // jalr x0, x1, 0
		0x00040393, // addi x7, x8, 0
		0xfe9ff06f, // jal x0, -24
	}
	for _, x := range [][3]int{{12, 18, 6}, {18, 12, 6}, {7, 0, 7}, {1, most, 1}, {0, 0, 0}, {-2, 4, 2}, {least, 1 << 20, 1 << 20}, {-6, -9, 1}, {1071, 462, 21}} {
		h := of(x[0], x[1])
		h.PC = 0
		var e api.Effect
		for range 1000 {
			in, err := code.Decode(words[h.PC/4])
			if err != api.OK {
				t.Fatal(h.PC, err)
			}
			if h, e = is(t, h, 0, in); e != (api.Effect{}) {
				break
			}
		}
		if e.Kind != api.EffectCall || h.PC != 8 || h.Regs[6] != x[2] || h.Regs[1] != 4 {
			t.Errorf("%v: %v, %v", x, h, e)
		}
	}
}

// R3, R4: what is handed in stays as it was, and the same is told again, whatever was told between.
func TestSameAgain(t *testing.T) {
	c := &chance{rand.New(rand.NewSource(146))}
	type call struct {
		h, kept api.Hart
		id      int
		in      api.Instr
		got     api.Hart
		e       api.Effect
	}
	var all []call
	for range 2000 {
		x := call{h: c.hart(), id: c.Intn(4), in: c.instr()}
		x.kept = x.h
		x.got, x.e = hart.Step(x.h, x.id, x.in)
		all = append(all, x)
	}
	c.Shuffle(len(all), func(i, k int) { all[i], all[k] = all[k], all[i] })
	for _, x := range all {
		if got, e := hart.Step(x.h, x.id, x.in); got != x.got || e != x.e || x.h != x.kept {
			t.Fatalf("%v: %v, %v, not %v, %v", x.in, got, e, x.got, x.e)
		}
	}
}

// R1: no call panics, of harts of which nothing is promised, either.
func TestAnyHart(t *testing.T) {
	c := &chance{rand.New(rand.NewSource(147))}
	far := func() int { return farNumbers[c.Intn(len(farNumbers))] }
	for range 20000 {
		h := api.Hart{PC: far(), Status: far(), Vector: far(), Scratch: far(), EPC: far(), Cause: far(), Level: far()}
		for r := range h.Regs {
			h.Regs[r] = far()
		}
		in := c.instr()
		if c.Intn(4) == 0 {
			in = api.Instr{Op: c.Intn(52) - 1, D: far(), A: far(), B: far(), N: far()}
		}
		hart.Step(h, far(), in)
		hart.Trap(h, far())
		hart.Lets(h, far())
		hart.Put(h, far(), far())
	}
}

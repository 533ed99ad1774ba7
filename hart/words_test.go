package hart_test

import (
	"math"
	"math/bits"
	"math/rand"
	"testing"

	"headstock/api"
	"headstock/code"
	"headstock/hart"
)

// What the chapter's words say, written out here by themselves, with the numbers of 32 bits that Go has.

const (
	least = -1 << 31
	most  = 1<<31 - 1
	turn  = 1 << 32
)

// someNumbers are numbers of 32 bits, at edges and beside them.
var someNumbers = []int{
	0, 1, 2, 3, 4, 5, 7, 8, 12, 31, 32, 33, 63, 128, 136, 255, 2047, 2048, 4095, 4096, 65535, 65536, 1 << 30, most - 4, most - 3, most - 1, most,
	-1, -2, -3, -4, -5, -7, -8, -31, -32, -33, -129, -137, -2048, -2049, -65536, least / 2, least + 4, least + 3, least + 1, least, 0x12345678, -0x76543211, 0x55555555, -0x55555556,
}

// farNumbers are beyond 32 bits, or at their end.
var farNumbers = []int{1 << 31, turn - 1, turn, turn + 1, 3*turn + 77, -turn, -turn - 1, least - 1, 0x123456789abcdef0, math.MinInt, math.MinInt + 1, math.MaxInt - 1, math.MaxInt}

// cut is a number of 32 bits, with its sign.
func cut(n int) int { return int(int32(uint32(uint64(n)))) }

// row is an instruction, what it has, and the least and the greatest number that it may have.
type row struct {
	op          int
	has         string
	least, most int
}

func (x row) is(part rune) bool {
	for _, c := range x.has {
		if c == part {
			return true
		}
	}
	return false
}

// rows are all instructions, as chapter 2 has them.
func rows() []row {
	var l []row
	all := func(has string, least, most int, ops ...int) {
		for _, op := range ops {
			l = append(l, row{op, has, least, most})
		}
	}
	all("DN", 0, 1<<20-1, api.InLui, api.InAuipc)
	all("DN", -1<<20, 1<<20-2, api.InJal)
	all("DAN", -2048, 2047, api.InJalr, api.InLw, api.InAddi, api.InSlti, api.InSltiu, api.InXori, api.InOri, api.InAndi)
	all("ABN", -4096, 4094, api.InBeq, api.InBne, api.InBlt, api.InBge, api.InBltu, api.InBgeu)
	all("ABN", -2048, 2047, api.InSw)
	all("DAN", 0, 31, api.InSlli, api.InSrli, api.InSrai)
	all("DAB", 0, 0, api.InAdd, api.InSub, api.InSll, api.InSlt, api.InSltu, api.InXor, api.InSrl, api.InSra, api.InOr, api.InAnd)
	all("DAB", 0, 0, api.InMul, api.InMulh, api.InMulhu, api.InDiv, api.InDivu, api.InRem, api.InRemu)
	all("N", 0, 255, api.InFence)
	all("DAN", 0, 4095, api.InCsrrw, api.InCsrrs, api.InCsrrc)
	all("", 0, 0, api.InEcall, api.InMret, api.InWfi)
	all("DAN", 0, 3, api.InLr)
	all("DABN", 0, 3, api.InSc, api.InAmoSwap, api.InAmoAdd)
	return l
}

// makes is what an instruction makes of two numbers for its register.
func makes(op int, a, b int32) (int32, bool) {
	x, y := uint32(a), uint32(b)
	switch op {
	case api.InAddi, api.InAdd:
		return a + b, true
	case api.InSub:
		return a - b, true
	case api.InXori, api.InXor:
		return a ^ b, true
	case api.InOri, api.InOr:
		return a | b, true
	case api.InAndi, api.InAnd:
		return a & b, true
	case api.InSlli, api.InSll:
		return a << (y % 32), true
	case api.InSrli, api.InSrl:
		return int32(x >> (y % 32)), true
	case api.InSrai, api.InSra:
		return a >> (y % 32), true
	case api.InSlti, api.InSlt:
		return told(a < b), true
	case api.InSltiu, api.InSltu:
		return told(x < y), true
	}
	return product(op, a, b)
}

func product(op int, a, b int32) (int32, bool) {
	x, y := uint32(a), uint32(b)
	switch {
	case op == api.InMul:
		return a * b, true
	case op == api.InMulh:
		return int32(int64(a) * int64(b) >> 32), true
	case op == api.InMulhu:
		high, _ := bits.Mul32(x, y)
		return int32(high), true
	case (op == api.InDiv || op == api.InDivu) && b == 0:
		return -1, true
	case (op == api.InRem || op == api.InRemu) && b == 0:
		return a, true
	case op == api.InDiv:
		return a / b, true
	case op == api.InRem:
		return a % b, true
	case op == api.InDivu:
		return int32(x / y), true
	case op == api.InRemu:
		return int32(x % y), true
	}
	return 0, false
}

func told(so bool) int32 {
	if so {
		return 1
	}
	return 0
}

// goes tells whether a branch leads away.
func goes(op int, a, b int32) bool {
	switch op {
	case api.InBeq:
		return a == b
	case api.InBne:
		return a != b
	case api.InBlt:
		return a < b
	case api.InBge:
		return a >= b
	case api.InBltu:
		return uint32(a) < uint32(b)
	}
	return uint32(a) >= uint32(b)
}

// effectOf is what an instruction does beyond its hart; what it has not is 0, and so is x0.
func effectOf(in api.Instr, a, b int) api.Effect {
	e := api.Effect{Kind: map[int]int{
		api.InLw: api.EffectLoad, api.InSw: api.EffectStore, api.InFence: api.EffectFence, api.InEcall: api.EffectCall, api.InWfi: api.EffectWait,
		api.InLr: api.EffectReserve, api.InSc: api.EffectConditional, api.InAmoSwap: api.EffectChange, api.InAmoAdd: api.EffectChange,
	}[in.Op]}
	switch e.Kind {
	case api.EffectLoad, api.EffectStore:
		e.D, e.Address, e.N = in.D, cut(a+in.N), b
	case api.EffectReserve, api.EffectConditional, api.EffectChange:
		e.D, e.Address, e.N = in.D, a, b
	}
	if in.Op == api.InAmoAdd {
		e.Op = 1
	}
	return e
}

// set puts a number into a register of a hart that is the caller's own.
func set(h *api.Hart, d int, n int) {
	if d != 0 {
		h.Regs[d] = cut(n)
	}
}

// want is what Step is to tell.
func want(h api.Hart, id int, in api.Instr) (api.Hart, api.Effect) {
	if !code.Right(in) {
		return h, api.Effect{Kind: api.EffectBad}
	}
	a, b, pc := h.Regs[in.A], h.Regs[in.B], h.PC
	e := effectOf(in, a, b)
	h.PC = cut(pc + 4)
	switch in.Op {
	case api.InLui:
		set(&h, in.D, 4096*in.N)
	case api.InAuipc:
		set(&h, in.D, pc+4096*in.N)
	case api.InJal:
		set(&h, in.D, pc+4)
		h.PC = cut(pc + in.N)
	case api.InJalr:
		set(&h, in.D, pc+4)
		if h.PC = cut(a + in.N); h.PC%2 != 0 {
			h.PC--
		}
	case api.InBeq, api.InBne, api.InBlt, api.InBge, api.InBltu, api.InBgeu:
		if goes(in.Op, int32(a), int32(b)) {
			h.PC = cut(pc + in.N)
		}
	case api.InCsrrw, api.InCsrrs, api.InCsrrc:
		return wantControl(h, pc, id, in)
	case api.InMret:
		h.PC, h.Status = h.EPC, h.Status/128*8+128
	default:
		// An instruction has a second register or a number; what it has not is 0.
		if n, ok := makes(in.Op, int32(a), int32(b+in.N)); ok {
			set(&h, in.D, int(n))
		}
	}
	return h, e
}

// wantControl is H3, of a hart that has gone on from pc.
func wantControl(h api.Hart, pc, id int, in api.Instr) (api.Hart, api.Effect) {
	a, old := h.Regs[in.A], 0
	becomes := func(old int) int {
		switch in.Op {
		case api.InCsrrs:
			return old | a
		case api.InCsrrc:
			return old & (-1 - a)
		}
		return a
	}
	switch in.N {
	case 0x300:
		old, h.Status = h.Status, becomes(h.Status)&8+becomes(h.Status)&128
	case 0x305:
		old, h.Vector = h.Vector, fours(becomes(h.Vector))
	case 0x340:
		old, h.Scratch = h.Scratch, becomes(h.Scratch)
	case 0x341:
		old, h.EPC = h.EPC, fours(becomes(h.EPC))
	case 0x342:
		old, h.Cause = h.Cause, becomes(h.Cause)
	case 0x7c0:
		old, h.Level = h.Level, becomes(h.Level)
	case 0xf14:
		old = cut(id)
	default:
		h.PC = pc
		return h, api.Effect{Kind: api.EffectBad}
	}
	set(&h, in.D, old)
	return h, api.Effect{}
}

// fours is the greatest number from n on downwards whose lowest two bits are 0.
func fours(n int) int {
	for n%4 != 0 {
		n--
	}
	return n
}

// is holds Step against the words.
func is(t *testing.T, h api.Hart, id int, in api.Instr) (api.Hart, api.Effect) {
	t.Helper()
	got, e := hart.Step(h, id, in)
	if wantHart, wantEffect := want(h, id, in); got != wantHart || e != wantEffect {
		t.Fatalf("%s %v, id %d, of %v: %v, %v, not %v, %v", code.Name(in.Op), in, id, h, got, e, wantHart, wantEffect)
	}
	return got, e
}

// isSuch tells whether the chapter promises anything of a hart: its numbers have 32 bits, x0 is 0, and its status has bits 3 and 7 alone.
func isSuch(h api.Hart) bool {
	for _, n := range append(h.Regs[:], h.PC, h.Status, h.Vector, h.Scratch, h.EPC, h.Cause, h.Level) {
		if n != cut(n) {
			return false
		}
	}
	return h.Regs[0] == 0 && (h.Status == 0 || h.Status == 8 || h.Status == 128 || h.Status == 136)
}

// someHart is a hart of which no two things are the same.
func someHart() api.Hart {
	h := api.Hart{PC: 0x4000, Status: 128, Vector: 0x100, Scratch: 0x51, EPC: 0x204, Cause: -0x31, Level: 3}
	for r := 1; r < api.Regs; r++ {
		h.Regs[r] = 1000003 * r
	}
	return h
}

type chance struct{ *rand.Rand }

// number is one of 32 bits: often at an edge.
func (c *chance) number() int {
	switch c.Intn(4) {
	case 0:
		return cut(int(c.Uint64()))
	case 1:
		return cut(1<<c.Intn(32) - c.Intn(2))
	}
	return someNumbers[c.Intn(len(someNumbers))]
}

// hart is one of those of which the chapter promises something.
func (c *chance) hart() api.Hart {
	h := api.Hart{PC: c.number(), Status: 8*c.Intn(2) + 128*c.Intn(2), Vector: c.number(), Scratch: c.number(), EPC: c.number(), Cause: c.number(), Level: c.number()}
	for r := 1; r < api.Regs; r++ {
		h.Regs[r] = c.number()
	}
	return h
}

func (c *chance) register() int {
	if c.Intn(4) == 0 {
		return c.Intn(api.Regs)
	}
	// Of few registers some are often the same.
	return c.Intn(3)
}

// instr is a right instruction.
func (c *chance) instr() api.Instr {
	all := rows()
	x := all[c.Intn(len(all))]
	in := api.Instr{Op: x.op, N: x.least + c.Intn(x.most-x.least+1)}
	if x.is('D') {
		in.D = c.register()
	}
	if x.is('A') {
		in.A = c.register()
	}
	if x.is('B') {
		in.B = c.register()
	}
	switch x.op {
	case api.InBeq, api.InBne, api.InBlt, api.InBge, api.InBltu, api.InBgeu, api.InJal:
		in.N &^= 1
	case api.InCsrrw, api.InCsrrs, api.InCsrrc:
		if c.Intn(8) > 0 {
			in.N = controls[c.Intn(len(controls))]
		}
	}
	return in
}

// controls are the control registers that there are.
var controls = [...]int{api.CsrStatus, api.CsrVector, api.CsrScratch, api.CsrEPC, api.CsrCause, api.CsrLevel, api.CsrHart}

package hart_test

import (
	"math"
	"math/rand"
	"slices"
	"testing"

	"headstock/api"
	"headstock/code"
	"headstock/hart"
)

// ins is an instruction, with what it has: D, A, B, and N.
func ins(op, d, a, b, n int) api.Instr { return api.Instr{Op: op, D: d, A: a, B: b, N: n} }

// of is a hart of which no two things are the same, but that these are in x6 and x7.
func of(a, b int) api.Hart {
	h := someHart()
	h.Regs[6], h.Regs[7] = a, b
	return h
}

// steps holds what Step tells against what is known, and against the words.
func steps(t *testing.T, name string, h api.Hart, in api.Instr, want api.Hart, e api.Effect) {
	t.Helper()
	got, gotEffect := is(t, h, 1, in)
	if got != want || gotEffect != e {
		t.Errorf("%s %v, %s: %v, %v, not %v, %v", code.Name(in.Op), in, name, got, gotEffect, want, e)
	}
}

// The chapter's example.
func TestExample(t *testing.T) {
	var h api.Hart
	h.Regs[5] = 3
	got, e := hart.Step(h, 0, ins(api.InAddi, 6, 5, 0, -4))
	h.Regs[6], h.PC = -1, 4
	if got != h || e != (api.Effect{}) {
		t.Errorf("%v, %v", got, e)
	}
}

// H1: the register is Wrap of the number, and nothing else is changed; no other register is put.
func TestPut(t *testing.T) {
	numbers := append(slices.Clone(someNumbers), farNumbers...)
	for _, h := range []api.Hart{{}, someHart()} {
		for d := -40; d < 100; d++ {
			for _, n := range numbers {
				want := h
				if d >= 1 && d <= 31 {
					want.Regs[d] = cut(n)
				}
				if got := hart.Put(h, d, n); got != want {
					t.Fatalf("%d in x%d: %v, not %v", n, d, got, want)
				}
			}
		}
		for _, d := range []int{math.MinInt, math.MaxInt, turn, turn + 5, -turn + 5, 1 << 31, least, 1 << 16, 256 + 5, -5} {
			if got := hart.Put(h, d, 9); got != h {
				t.Errorf("x%d: %v", d, got)
			}
		}
	}
}

// H1, by numbers that are known.
func TestPutNumbers(t *testing.T) {
	for n, want := range map[int]int{0: 0, 7: 7, -7: -7, most: most, 1 << 31: least, least: least, least - 1: most, turn - 1: -1, turn: 0, 5*turn + 6: 6, math.MaxInt: -1, math.MinInt: 0} {
		for _, d := range []int{1, 2, 16, 30, 31} {
			if got := hart.Put(api.Hart{}, d, n).Regs[d]; got != want {
				t.Errorf("%d in x%d: %d, not %d", n, d, got, want)
			}
		}
	}
}

// isBad holds that nothing comes of an instruction.
func isBad(t *testing.T, in api.Instr) {
	t.Helper()
	for _, h := range []api.Hart{{}, someHart()} {
		if got, e := hart.Step(h, 2, in); got != h || e != (api.Effect{Kind: api.EffectBad}) {
			t.Errorf("%v: %v, %v", in, got, e)
		}
	}
}

// H2: of what is not right, the hart itself, and EffectBad.
func TestWrong(t *testing.T) {
	for _, op := range []int{0, -1, 50, 51, 64, 100, 256 + api.InAdd, turn + api.InAdd, math.MinInt, math.MaxInt, -api.InAdd} {
		isBad(t, api.Instr{Op: op})
		isBad(t, ins(op, 1, 2, 3, 0))
	}
	for _, x := range rows() {
		isBad(t, ins(x.op, 0, 0, 0, x.least-2))
		isBad(t, ins(x.op, 0, 0, 0, x.most+2))
		isBad(t, ins(x.op, 0, 0, 0, x.least-1))
		isBad(t, ins(x.op, 0, 0, 0, x.most+1))
		for _, r := range []int{-1, 32, 33, 64, turn + 1, math.MinInt, math.MaxInt} {
			isBad(t, ins(x.op, r, 0, 0, 0))
			isBad(t, ins(x.op, 0, r, 0, 0))
			isBad(t, ins(x.op, 0, 0, r, 0))
			isBad(t, ins(x.op, r, r, r, r))
		}
		if !x.is('D') {
			isBad(t, ins(x.op, 1, 0, 0, 0))
		}
		if !x.is('A') {
			isBad(t, ins(x.op, 0, 1, 0, 0))
		}
		if !x.is('B') {
			isBad(t, ins(x.op, 0, 0, 1, 0))
		}
	}
	for _, in := range []api.Instr{ins(api.InBeq, 0, 0, 0, 3), ins(api.InJal, 1, 0, 0, -5), ins(api.InBgeu, 0, 1, 2, 1), ins(api.InAddi, 1, 2, 3, 4), ins(api.InAdd, 1, 2, 3, 4), ins(api.InLr, 1, 2, 3, 0), ins(api.InSlli, 1, 2, 0, -1)} {
		isBad(t, in)
	}
}

// H2: what is made of two registers.
func TestTwoRegisters(t *testing.T) {
	for _, x := range []struct{ op, a, b, want int }{
		{api.InAdd, 3, 4, 7}, {api.InAdd, -3, 1, -2}, {api.InAdd, most, 1, least}, {api.InAdd, least, -1, most}, {api.InAdd, least, least, 0},
		{api.InSub, 3, 4, -1}, {api.InSub, 4, 3, 1}, {api.InSub, 0, least, least}, {api.InSub, least, 1, most}, {api.InSub, -1, most, least},
		{api.InSll, 3, 4, 48}, {api.InSll, 1, 31, least}, {api.InSll, 3, 32, 3}, {api.InSll, 3, 33, 6}, {api.InSll, 3, -1, least}, {api.InSll, -1, 4, -16}, {api.InSll, 5, 0, 5},
		{api.InSlt, 2, 3, 1}, {api.InSlt, 3, 3, 0}, {api.InSlt, 4, 3, 0}, {api.InSlt, -1, 0, 1}, {api.InSlt, 0, -1, 0}, {api.InSlt, least, most, 1}, {api.InSlt, most, least, 0},
		{api.InSltu, 2, 3, 1}, {api.InSltu, 3, 3, 0}, {api.InSltu, 4, 3, 0}, {api.InSltu, -1, 0, 0}, {api.InSltu, 0, -1, 1}, {api.InSltu, least, most, 0}, {api.InSltu, most, least, 1}, {api.InSltu, -2, -1, 1},
		{api.InXor, 6, 3, 5}, {api.InXor, -1, 3, -4}, {api.InXor, least, most, -1}, {api.InOr, 6, 3, 7}, {api.InOr, least, 1, least + 1}, {api.InAnd, 6, 3, 2}, {api.InAnd, -1, least, least},
		{api.InSrl, 48, 4, 3}, {api.InSrl, -1, 28, 15}, {api.InSrl, -1, 0, -1}, {api.InSrl, -1, 32, -1}, {api.InSrl, -1, 33, most}, {api.InSrl, least, 31, 1}, {api.InSrl, -1, -1, 1}, {api.InSrl, 7, 1, 3}, {api.InSrl, least, -32, least},
		{api.InSra, 48, 4, 3}, {api.InSra, -1, 28, -1}, {api.InSra, least, 31, -1}, {api.InSra, most, 30, 1}, {api.InSra, -7, 1, -4}, {api.InSra, -7, 33, -4}, {api.InSra, -7, 32, -7}, {api.InSra, least, 4, least >> 4},
		{api.InMul, -3, 5, -15}, {api.InMul, 65536, 65536, 0}, {api.InMul, most, most, 1}, {api.InMul, 65535, 65537, -1}, {api.InMul, least, -1, least},
		{api.InMulh, -1, -1, 0}, {api.InMulh, -1, 1, -1}, {api.InMulh, least, least, 1 << 30}, {api.InMulh, most, most, 1<<30 - 1}, {api.InMulh, least, most, -1 << 30}, {api.InMulh, 65536, 65536, 1}, {api.InMulh, 3, 5, 0}, {api.InMulh, -3, 5, -1},
		{api.InMulhu, -1, -1, -2}, {api.InMulhu, -1, 1, 0}, {api.InMulhu, least, least, 1 << 30}, {api.InMulhu, -1, 2, 1}, {api.InMulhu, 65536, 65536, 1}, {api.InMulhu, least, 2, 1}, {api.InMulhu, -1, least, most}, {api.InMulhu, 3, 5, 0},
		{api.InDiv, 7, 2, 3}, {api.InDiv, -7, 2, -3}, {api.InDiv, 7, -2, -3}, {api.InDiv, -7, -2, 3}, {api.InDiv, 7, 0, -1}, {api.InDiv, -7, 0, -1}, {api.InDiv, 0, 0, -1}, {api.InDiv, least, -1, least}, {api.InDiv, least, 1, least},
		{api.InDivu, 7, 2, 3}, {api.InDivu, -7, 2, 1<<31 - 4}, {api.InDivu, 7, -2, 0}, {api.InDivu, -1, 2, most}, {api.InDivu, -1, 1, -1}, {api.InDivu, -1, -1, 1}, {api.InDivu, 7, 0, -1}, {api.InDivu, 0, 0, -1}, {api.InDivu, -7, 0, -1}, {api.InDivu, least, -1, 0}, {api.InDivu, -1, least, 1}, {api.InDivu, -1, 10, 429496729},
		{api.InRem, 7, 2, 1}, {api.InRem, -7, 2, -1}, {api.InRem, 7, -2, 1}, {api.InRem, -7, -2, -1}, {api.InRem, 7, 0, 7}, {api.InRem, -7, 0, -7}, {api.InRem, least, -1, 0}, {api.InRem, 0, 0, 0},
		{api.InRemu, 7, 2, 1}, {api.InRemu, -7, 2, 1}, {api.InRemu, 7, -2, 7}, {api.InRemu, -1, 10, 5}, {api.InRemu, -1, -2, 1}, {api.InRemu, 7, 0, 7}, {api.InRemu, -7, 0, -7}, {api.InRemu, least, -1, least}, {api.InRemu, -1, least, most}, {api.InRemu, -2, -1, -2},
	} {
		h := of(x.a, x.b)
		want := h
		want.Regs[5], want.PC = x.want, 0x4004
		steps(t, "", h, ins(x.op, 5, 6, 7, 0), want, api.Effect{})
	}
}

// H2: what is made of a register and a number.
func TestRegisterAndNumber(t *testing.T) {
	for _, x := range []struct{ op, a, n, want int }{
		{api.InAddi, 3, -4, -1}, {api.InAddi, most, 1, least}, {api.InAddi, least, -2048, most - 2047}, {api.InAddi, 0, 2047, 2047}, {api.InAddi, 9, 0, 9},
		{api.InSlti, -1, 0, 1}, {api.InSlti, 0, -1, 0}, {api.InSlti, -2048, -2048, 0}, {api.InSlti, -2049, -2048, 1}, {api.InSlti, 2046, 2047, 1}, {api.InSlti, least, 0, 1},
		{api.InSltiu, 5, -1, 1}, {api.InSltiu, -1, -1, 0}, {api.InSltiu, -2, -1, 1}, {api.InSltiu, -1, 5, 0}, {api.InSltiu, 0, 1, 1}, {api.InSltiu, 1, 1, 0}, {api.InSltiu, most, -2048, 1}, {api.InSltiu, -2049, -2048, 1},
		{api.InXori, 6, 3, 5}, {api.InXori, 6, -1, -7}, {api.InXori, -1, -2048, 2047}, {api.InOri, 6, 3, 7}, {api.InOri, least, -1, -1}, {api.InOri, 0, -2048, -2048}, {api.InAndi, 6, 3, 2}, {api.InAndi, -1, -2048, -2048}, {api.InAndi, least, 2047, 0},
		{api.InSlli, 3, 4, 48}, {api.InSlli, 3, 31, least}, {api.InSlli, -1, 31, least}, {api.InSlli, 3, 0, 3}, {api.InSlli, 2, 31, 0},
		{api.InSrli, 48, 4, 3}, {api.InSrli, -1, 28, 15}, {api.InSrli, -1, 0, -1}, {api.InSrli, least, 31, 1}, {api.InSrli, -8, 1, most - 3},
		{api.InSrai, 48, 4, 3}, {api.InSrai, -1, 28, -1}, {api.InSrai, least, 31, -1}, {api.InSrai, -7, 1, -4}, {api.InSrai, least, 0, least}, {api.InSrai, most, 31, 0},
	} {
		h := of(x.a, 12345)
		want := h
		want.Regs[5], want.PC = x.want, 0x4004
		steps(t, "", h, ins(x.op, 5, 6, 0, x.n), want, api.Effect{})
	}
}

// H2: numbers that fill a register's upper bits, beside the place or not.
func TestUpper(t *testing.T) {
	for _, x := range []struct{ op, pc, n, want, next int }{
		{api.InLui, 0x4000, 0, 0, 0x4004}, {api.InLui, 0x4000, 1, 4096, 0x4004}, {api.InLui, 0, 0x10000, api.DeviceBase, 4}, {api.InLui, 0, 0x7ffff, 1<<31 - 4096, 4}, {api.InLui, 0, 0x80000, least, 4}, {api.InLui, 8, 0xfffff, -4096, 12},
		{api.InAuipc, 0x4000, 0, 0x4000, 0x4004}, {api.InAuipc, 0x4000, 1, 0x5000, 0x4004}, {api.InAuipc, 0, 0x80000, least, 4}, {api.InAuipc, 8, 0xfffff, -4088, 12}, {api.InAuipc, -4, 0x80000, most - 3, 0}, {api.InAuipc, most - 3, 1, least + 4092, least}, {api.InAuipc, least, 0x80000, 0, least + 4}, {api.InAuipc, 6, 2, 8198, 10},
	} {
		h := someHart()
		h.PC = x.pc
		want := h
		want.Regs[5], want.PC = x.want, x.next
		steps(t, "", h, ins(x.op, 5, 0, 0, x.n), want, api.Effect{})
	}
}

// H2: jumps, and what is put.
func TestJumps(t *testing.T) {
	for _, x := range []struct{ d, pc, n, link, next int }{
		{5, 100, 8, 104, 108}, {5, 100, -4, 104, 96}, {5, 100, 0, 104, 100}, {5, 100, 4, 104, 104}, {0, 100, 8, 0, 108}, {31, 0, -4, 4, -4}, {1, most - 3, 8, least, least + 4}, {1, least, -2, least + 4, most - 1}, {1, -4, 4, 0, 0}, {5, 102, 6, 106, 108},
		{5, 0, 1<<20 - 2, 4, 1<<20 - 2}, {5, 0, -1 << 20, 4, -1 << 20}, {5, most, 2, least + 3, least + 1},
	} {
		h := someHart()
		h.PC = x.pc
		want := h
		want.Regs[x.d], want.PC = x.link, x.next
		steps(t, "", h, ins(api.InJal, x.d, 0, 0, x.n), want, api.Effect{})
	}
	for _, x := range []struct{ d, a, pc, xA, n, link, next int }{
		{5, 6, 100, 40, 8, 104, 48}, {5, 6, 100, 40, -44, 104, -4}, {0, 6, 100, 40, 0, 0, 40}, {6, 6, 100, 40, 4, 104, 44}, {5, 6, 100, 7, 0, 104, 6}, {5, 6, 100, 7, 1, 104, 8}, {5, 6, 100, 1, 2, 104, 2}, {5, 6, 100, 0, -1, 104, -2}, {5, 6, 100, 42, 0, 104, 42},
		{5, 6, 100, most, 1, 104, least}, {5, 6, 100, most, 0, 104, most - 1}, {5, 6, 100, least, -1, 104, most - 1}, {6, 6, most - 3, 1, 2047, least, 2048}, {5, 6, -4, 0, -2048, 0, -2048}, {6, 6, 0, -1, 0, 4, -2},
	} {
		h := of(x.xA, 9)
		h.PC = x.pc
		want := h
		want.Regs[x.d], want.PC = x.link, x.next
		steps(t, "", h, ins(api.InJalr, x.d, x.a, 0, x.n), want, api.Effect{})
	}
	h := someHart()
	want := h
	want.Regs[5], want.PC = 0x4004, 12
	steps(t, "by x0", h, ins(api.InJalr, 5, 0, 0, 13), want, api.Effect{})
}

// H2: which branches lead away, and where to.
func TestBranches(t *testing.T) {
	for _, x := range []struct {
		a, b int
		goes string // =, !, <, > (not below), and without signs u (below), U (not below)
	}{
		{3, 3, "=>U"}, {3, 4, "!<u"}, {4, 3, "!>U"}, {0, 0, "=>U"}, {-1, 0, "!<U"}, {0, -1, "!>u"}, {-1, -1, "=>U"}, {-2, -1, "!<u"}, {-1, -2, "!>U"}, {least, most, "!<U"}, {most, least, "!>u"}, {least, least, "=>U"}, {most, -1, "!>u"}, {3, -3, "!>u"}, {3, 3 + 1<<16, "!<u"},
	} {
		for sign, op := range map[rune]int{'=': api.InBeq, '!': api.InBne, '<': api.InBlt, '>': api.InBge, 'u': api.InBltu, 'U': api.InBgeu} {
			for _, to := range [][3]int{{100, 8, 108}, {100, -8, 92}, {100, 0, 100}, {0, -4096, -4096}, {0, 4094, 4094}, {most - 3, 8, least + 4}, {least, -4, most - 3}, {102, 6, 108}} {
				h := of(x.a, x.b)
				h.PC = to[0]
				want := h
				want.PC = cut(to[0] + 4)
				if slices.Contains([]rune(x.goes), sign) {
					want.PC = to[2]
				}
				steps(t, "", h, ins(op, 0, 6, 7, to[1]), want, api.Effect{})
			}
		}
	}
}

// H2: what is done beyond the hart; no register is set, and it goes on.
func TestEffects(t *testing.T) {
	for _, x := range []struct {
		in   api.Instr
		a, b int
		e    api.Effect
	}{
		{ins(api.InLw, 5, 6, 0, 8), 100, 9, api.Effect{Kind: api.EffectLoad, D: 5, Address: 108}},
		{ins(api.InLw, 6, 6, 0, -2048), 100, 9, api.Effect{Kind: api.EffectLoad, D: 6, Address: -1948}},
		{ins(api.InLw, 0, 6, 0, 1), most, 9, api.Effect{Kind: api.EffectLoad, Address: least}},
		{ins(api.InLw, 31, 6, 0, -1), least, 9, api.Effect{Kind: api.EffectLoad, D: 31, Address: most}},
		{ins(api.InLw, 5, 0, 0, 3), 100, 9, api.Effect{Kind: api.EffectLoad, D: 5, Address: 3}},
		{ins(api.InSw, 0, 6, 7, 8), 100, 9, api.Effect{Kind: api.EffectStore, Address: 108, N: 9}},
		{ins(api.InSw, 0, 6, 6, -4), 100, 9, api.Effect{Kind: api.EffectStore, Address: 96, N: 100}},
		{ins(api.InSw, 0, 6, 0, 2047), most, 9, api.Effect{Kind: api.EffectStore, Address: least + 2046}},
		{ins(api.InSw, 0, 0, 7, -1), 100, least, api.Effect{Kind: api.EffectStore, Address: -1, N: least}},
		{ins(api.InSw, 0, 6, 7, -1), least, -1, api.Effect{Kind: api.EffectStore, Address: most, N: -1}},
		{ins(api.InFence, 0, 0, 0, 0), 100, 9, api.Effect{Kind: api.EffectFence}},
		{ins(api.InFence, 0, 0, 0, 255), 100, 9, api.Effect{Kind: api.EffectFence}},
		{ins(api.InLr, 5, 6, 0, 0), 100, 9, api.Effect{Kind: api.EffectReserve, D: 5, Address: 100}},
		{ins(api.InLr, 0, 6, 0, 3), -100, 9, api.Effect{Kind: api.EffectReserve, Address: -100}},
		{ins(api.InLr, 6, 6, 0, 1), least, 9, api.Effect{Kind: api.EffectReserve, D: 6, Address: least}},
		{ins(api.InSc, 5, 6, 7, 0), 100, 9, api.Effect{Kind: api.EffectConditional, D: 5, Address: 100, N: 9}},
		{ins(api.InSc, 7, 6, 7, 3), most, -9, api.Effect{Kind: api.EffectConditional, D: 7, Address: most, N: -9}},
		{ins(api.InSc, 0, 7, 6, 2), least, 9, api.Effect{Kind: api.EffectConditional, Address: 9, N: least}},
		{ins(api.InAmoSwap, 5, 6, 7, 0), 100, 9, api.Effect{Kind: api.EffectChange, D: 5, Address: 100, N: 9}},
		{ins(api.InAmoSwap, 0, 6, 0, 3), 100, 9, api.Effect{Kind: api.EffectChange, Address: 100}},
		{ins(api.InAmoSwap, 6, 6, 6, 1), -4, 9, api.Effect{Kind: api.EffectChange, D: 6, Address: -4, N: -4}},
		{ins(api.InAmoAdd, 5, 6, 7, 0), 100, 9, api.Effect{Kind: api.EffectChange, D: 5, Address: 100, N: 9, Op: api.OpAdd}},
		{ins(api.InAmoAdd, 0, 0, 7, 3), 100, most, api.Effect{Kind: api.EffectChange, N: most, Op: api.OpAdd}},
		{ins(api.InAmoAdd, 7, 6, 7, 2), least, least, api.Effect{Kind: api.EffectChange, D: 7, Address: least, N: least, Op: api.OpAdd}},
		{ins(api.InEcall, 0, 0, 0, 0), 100, 9, api.Effect{Kind: api.EffectCall}},
		{ins(api.InWfi, 0, 0, 0, 0), 100, 9, api.Effect{Kind: api.EffectWait}},
	} {
		h := of(x.a, x.b)
		for pc, next := range map[int]int{0x4000: 0x4004, 0: 4, -4: 0, most - 3: least, 6: 10} {
			h.PC = pc
			want := h
			want.PC = next
			steps(t, "", h, x.in, want, x.e)
		}
	}
}

// H2: InMret goes back to EPC, as it is, and lets in what was let in.
func TestBack(t *testing.T) {
	for status, want := range map[int]int{0: 128, 8: 128, 128: 136, 136: 136} {
		for _, epc := range someNumbers {
			h := someHart()
			h.Status, h.EPC = status, epc
			behind := h
			behind.Status, behind.PC = want, epc
			steps(t, "", h, ins(api.InMret, 0, 0, 0, 0), behind, api.Effect{})
		}
	}
}

// control is what stands in a control register of a hart that is the caller's.
func control(h *api.Hart, number int) *int {
	return map[int]*int{0x300: &h.Status, 0x305: &h.Vector, 0x340: &h.Scratch, 0x341: &h.EPC, 0x342: &h.Cause, 0x7c0: &h.Level}[number]
}

// H3: what is told, and what it becomes.
func TestControl(t *testing.T) {
	for _, x := range []struct{ op, number, old, a, want int }{
		{api.InCsrrw, 0x300, 8, 0, 0}, {api.InCsrrw, 0x300, 0, -1, 136}, {api.InCsrrw, 0x300, 136, 8, 8}, {api.InCsrrw, 0x300, 8, 128, 128}, {api.InCsrrw, 0x300, 128, ^136, 0}, {api.InCsrrw, 0x300, 0, 256 + 8 + 1, 8},
		{api.InCsrrs, 0x300, 128, 8, 136}, {api.InCsrrs, 0x300, 8, -1, 136}, {api.InCsrrs, 0x300, 8, 0, 8}, {api.InCsrrs, 0x300, 0, ^136, 0}, {api.InCsrrs, 0x300, 8, 128 + 64, 136},
		{api.InCsrrc, 0x300, 136, 8, 128}, {api.InCsrrc, 0x300, 136, -1, 0}, {api.InCsrrc, 0x300, 136, 0, 136}, {api.InCsrrc, 0x300, 8, 128, 8}, {api.InCsrrc, 0x300, 136, 128 + 1, 8},
		{api.InCsrrw, 0x305, 64, 35, 32}, {api.InCsrrw, 0x305, 64, -1, -4}, {api.InCsrrw, 0x305, 64, 36, 36}, {api.InCsrrw, 0x305, 64, least + 1, least}, {api.InCsrrs, 0x305, 64, 7, 68}, {api.InCsrrs, 0x305, 64, 3, 64}, {api.InCsrrc, 0x305, 68, 64, 4}, {api.InCsrrc, 0x305, -4, 7, -8}, {api.InCsrrc, 0x305, 64, 1, 64},
		{api.InCsrrw, 0x340, 5, -1, -1}, {api.InCsrrw, 0x340, -1, least + 3, least + 3}, {api.InCsrrs, 0x340, 5, 2, 7}, {api.InCsrrs, 0x340, least, most, -1}, {api.InCsrrc, 0x340, 7, 5, 2}, {api.InCsrrc, 0x340, -1, most, least}, {api.InCsrrc, 0x340, 7, 8, 7},
		{api.InCsrrw, 0x341, 64, 35, 32}, {api.InCsrrw, 0x341, 64, -2, -4}, {api.InCsrrw, 0x341, 64, most, most - 3}, {api.InCsrrs, 0x341, 64, 6, 68}, {api.InCsrrs, 0x341, 64, 0, 64}, {api.InCsrrc, 0x341, 68, 4, 64}, {api.InCsrrc, 0x341, -4, -1, 0},
		{api.InCsrrw, 0x342, 5, least + 7, least + 7}, {api.InCsrrs, 0x342, 5, 3, 7}, {api.InCsrrc, 0x342, 7, 3, 4}, {api.InCsrrc, 0x342, -1, -1, 0},
		{api.InCsrrw, 0x7c0, 5, 7, 7}, {api.InCsrrw, 0x7c0, 5, -1, -1}, {api.InCsrrs, 0x7c0, 5, 3, 7}, {api.InCsrrc, 0x7c0, 7, 3, 4},
	} {
		h := of(x.a, 9)
		*control(&h, x.number) = x.old
		want := h
		want.Regs[5], want.PC = x.old, 0x4004
		*control(&want, x.number) = x.want
		steps(t, "apart", h, ins(x.op, 5, 6, 0, x.number), want, api.Effect{})
		want = h
		want.Regs[6], want.PC = x.old, 0x4004
		*control(&want, x.number) = x.want
		steps(t, "one register", h, ins(x.op, 6, 6, 0, x.number), want, api.Effect{})
		want.Regs[6] = x.a
		steps(t, "not told", h, ins(x.op, 0, 6, 0, x.number), want, api.Effect{})
	}
}

// H3: without a register nothing is set or cleared, but all is written.
func TestControlByNothing(t *testing.T) {
	for _, number := range controls[:6] {
		for op, stays := range map[int]bool{api.InCsrrw: false, api.InCsrrs: true, api.InCsrrc: true} {
			h := someHart()
			want := h
			want.Regs[5], want.PC = *control(&h, number), 0x4004
			if !stays {
				*control(&want, number) = 0
			}
			steps(t, "", h, ins(op, 5, 0, 0, number), want, api.Effect{})
		}
	}
}

// H3: what stood there is told as it was, though it becomes one whose lowest bits are 0.
func TestControlAligned(t *testing.T) {
	for _, number := range []int{api.CsrVector, api.CsrEPC} {
		for old, becomes := range map[int]int{1: 0, 2: 0, 3: 0, 7: 4, -1: -4, least + 2: least} {
			h := someHart()
			*control(&h, number) = old
			want := h
			want.Regs[5], want.PC = old, 0x4004
			*control(&want, number) = becomes
			steps(t, "", h, ins(api.InCsrrs, 5, 0, 0, number), want, api.Effect{})
			steps(t, "", h, ins(api.InCsrrc, 5, 0, 0, number), want, api.Effect{})
		}
	}
}

// H3: CsrHart tells Wrap of id, and never changes.
func TestControlHart(t *testing.T) {
	for id, tells := range map[int]int{0: 0, 1: 1, 3: 3, -1: -1, 77: 77, most: most, 1 << 31: least, turn: 0, turn + 2: 2, turn - 1: -1, math.MaxInt: -1, math.MinInt: 0} {
		for _, op := range []int{api.InCsrrw, api.InCsrrs, api.InCsrrc} {
			for _, a := range []int{0, 6, 7} {
				h := of(-1, 1)
				want := h
				want.Regs[5], want.PC = tells, 0x4004
				if got, e := hart.Step(h, id, ins(op, 5, a, 0, api.CsrHart)); got != want || e != (api.Effect{}) {
					t.Errorf("id %d, by %s x%d: %v, %v", id, code.Name(op), a, got, e)
				}
				want.Regs[5] = h.Regs[5]
				if got, e := hart.Step(h, id, ins(op, 0, a, 0, api.CsrHart)); got != want || e != (api.Effect{}) {
					t.Errorf("id %d, by %s x%d, not told: %v, %v", id, code.Name(op), a, got, e)
				}
			}
		}
	}
}

// H3: of all numbers but seven, the hart itself, and EffectBad.
func TestNoControl(t *testing.T) {
	for number := range 4096 {
		for _, op := range []int{api.InCsrrw, api.InCsrrs, api.InCsrrc} {
			for _, in := range []api.Instr{ins(op, 5, 6, 0, number), ins(op, 0, 0, 0, number)} {
				_, e := is(t, someHart(), 1, in)
				if there := slices.Contains([]int{0x300, 0x305, 0x340, 0x341, 0x342, 0x7c0, 0xf14}, number); there != (e == api.Effect{}) {
					t.Fatalf("%v: %v", in, e)
				}
				if e != (api.Effect{}) {
					isBad(t, in)
				}
			}
		}
	}
}

// H2: what an instruction does hangs on no id, but if it tells CsrHart.
func TestId(t *testing.T) {
	c := &chance{rand.New(rand.NewSource(140))}
	for range 5000 {
		h, in := c.hart(), c.instr()
		if in.N == api.CsrHart {
			continue
		}
		want, e := is(t, h, 0, in)
		if got, other := hart.Step(h, farNumbers[c.Intn(len(farNumbers))], in); got != want || other != e {
			t.Fatalf("%v, %v: %v, not %v", h, in, got, want)
		}
	}
}

// H4: where a trap goes, what it keeps, and for which cause.
func TestTrap(t *testing.T) {
	for status, want := range map[int]int{0: 0, 8: 128, 128: 0, 136: 128} {
		for cause, kept := range map[int]int{0: 0, 7: 7, -1: -1, least: least, least + 3: least + 3, 1<<31 + 3: least + 3, turn: 0, turn + 5: 5, math.MaxInt: -1, math.MinInt + 1: 1} {
			for _, pc := range someNumbers {
				for _, vector := range []int{0, 64, -4, 3, most, least} {
					h := someHart()
					h.Status, h.PC, h.Vector = status, pc, vector
					behind := h
					behind.Status, behind.EPC, behind.Cause, behind.PC = want, pc, kept, vector
					if got := hart.Trap(h, cause); got != behind {
						t.Fatalf("status %d, cause %d: %v, not %v", status, cause, got, behind)
					}
				}
			}
		}
	}
}

// H4: an interrupt is let in by bit 3, and only above the level.
func TestLets(t *testing.T) {
	for status, lets := range map[int]bool{0: false, 8: true, 128: false, 136: true} {
		for _, x := range []struct {
			level, priority int
			above           bool
		}{
			{0, 0, false}, {0, 1, true}, {0, -1, false}, {3, 2, false}, {3, 3, false}, {3, 4, true}, {7, 7, false}, {7, 8, true}, {-1, 0, true}, {-1, -1, false}, {-1, -2, false},
			{most, most, false}, {most, 1 << 31, true}, {least, least, false}, {least, least + 1, true}, {0, math.MaxInt, true}, {0, math.MinInt, false}, {5, turn + 1, true}, {5, -turn + 6, false},
		} {
			h := someHart()
			h.Status, h.Level = status, x.level
			if got := hart.Lets(h, x.priority); got != (lets && x.above) {
				t.Errorf("status %d, level %d, priority %d: %v", status, x.level, x.priority, got)
			}
		}
	}
}

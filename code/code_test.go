package code_test

import (
	"slices"
	"testing"

	"headstock/api"
	"headstock/code"
)

// parts tells what a form has, its number's bounds, and where all of it stands, as the chapter's second table has it.
type parts struct {
	d, a, b     bool
	least, most int
	step        int
	fields      []field
}

// field is what stands in a word's bits from low to high: the bits of a part from its bit at on.
type field struct {
	part      string
	low, high int
	at        int
}

var (
	fieldD = field{"D", 7, 11, 0}
	fieldA = field{"A", 15, 19, 0}
	fieldB = field{"B", 20, 24, 0}
)

var forms = map[string]parts{
	"R": {true, true, true, 0, 0, 1, []field{fieldD, fieldA, fieldB}},
	"I": {true, true, false, -2048, 2047, 1, []field{fieldD, fieldA, {"N", 20, 31, 0}}},
	"H": {true, true, false, 0, 31, 1, []field{fieldD, fieldA, {"N", 20, 24, 0}}},
	"S": {false, true, true, -2048, 2047, 1, []field{fieldA, fieldB, {"N", 7, 11, 0}, {"N", 25, 31, 5}}},
	"B": {false, true, true, -4096, 4094, 2, []field{fieldA, fieldB, {"N", 7, 7, 11}, {"N", 8, 11, 1}, {"N", 25, 30, 5}, {"N", 31, 31, 12}}},
	"U": {true, false, false, 0, 1<<20 - 1, 1, []field{fieldD, {"N", 12, 31, 0}}},
	"J": {true, false, false, -1 << 20, 1<<20 - 2, 2, []field{fieldD, {"N", 12, 19, 12}, {"N", 20, 20, 11}, {"N", 21, 30, 1}, {"N", 31, 31, 20}}},
	"F": {false, false, false, 0, 255, 1, []field{{"N", 20, 27, 0}}},
	"C": {true, true, false, 0, 4095, 1, []field{fieldD, fieldA, {"N", 20, 31, 0}}},
	"Z": {false, false, false, 0, 0, 1, nil},
	"L": {true, true, false, 0, 3, 1, []field{fieldD, fieldA, {"N", 25, 26, 0}}},
	"A": {true, true, true, 0, 3, 1, []field{fieldD, fieldA, fieldB, {"N", 25, 26, 0}}},
}

// table is the chapter's first table; bits are those that are the same in all words of a row, by the columns.
var table = []struct {
	op         int
	name, form string
	bits       int
}{
	{api.InLui, "lui", "U", 0x37},
	{api.InAuipc, "auipc", "U", 0x17},
	{api.InJal, "jal", "J", 0x6f},
	{api.InJalr, "jalr", "I", 0x67},
	{api.InBeq, "beq", "B", 0x63},
	{api.InBne, "bne", "B", 0x63 | 1<<12},
	{api.InBlt, "blt", "B", 0x63 | 4<<12},
	{api.InBge, "bge", "B", 0x63 | 5<<12},
	{api.InBltu, "bltu", "B", 0x63 | 6<<12},
	{api.InBgeu, "bgeu", "B", 0x63 | 7<<12},
	{api.InLw, "lw", "I", 0x03 | 2<<12},
	{api.InSw, "sw", "S", 0x23 | 2<<12},
	{api.InAddi, "addi", "I", 0x13},
	{api.InSlti, "slti", "I", 0x13 | 2<<12},
	{api.InSltiu, "sltiu", "I", 0x13 | 3<<12},
	{api.InXori, "xori", "I", 0x13 | 4<<12},
	{api.InOri, "ori", "I", 0x13 | 6<<12},
	{api.InAndi, "andi", "I", 0x13 | 7<<12},
	{api.InSlli, "slli", "H", 0x13 | 1<<12},
	{api.InSrli, "srli", "H", 0x13 | 5<<12},
	{api.InSrai, "srai", "H", 0x13 | 5<<12 | 0x20<<25},
	{api.InAdd, "add", "R", 0x33},
	{api.InSub, "sub", "R", 0x33 | 0x20<<25},
	{api.InSll, "sll", "R", 0x33 | 1<<12},
	{api.InSlt, "slt", "R", 0x33 | 2<<12},
	{api.InSltu, "sltu", "R", 0x33 | 3<<12},
	{api.InXor, "xor", "R", 0x33 | 4<<12},
	{api.InSrl, "srl", "R", 0x33 | 5<<12},
	{api.InSra, "sra", "R", 0x33 | 5<<12 | 0x20<<25},
	{api.InOr, "or", "R", 0x33 | 6<<12},
	{api.InAnd, "and", "R", 0x33 | 7<<12},
	{api.InMul, "mul", "R", 0x33 | 0x01<<25},
	{api.InMulh, "mulh", "R", 0x33 | 1<<12 | 0x01<<25},
	{api.InMulhu, "mulhu", "R", 0x33 | 3<<12 | 0x01<<25},
	{api.InDiv, "div", "R", 0x33 | 4<<12 | 0x01<<25},
	{api.InDivu, "divu", "R", 0x33 | 5<<12 | 0x01<<25},
	{api.InRem, "rem", "R", 0x33 | 6<<12 | 0x01<<25},
	{api.InRemu, "remu", "R", 0x33 | 7<<12 | 0x01<<25},
	{api.InFence, "fence", "F", 0x0f},
	{api.InCsrrw, "csrrw", "C", 0x73 | 1<<12},
	{api.InCsrrs, "csrrs", "C", 0x73 | 2<<12},
	{api.InCsrrc, "csrrc", "C", 0x73 | 3<<12},
	{api.InEcall, "ecall", "Z", 0x73},
	{api.InMret, "mret", "Z", 0x73 | 2<<20 | 0x18<<25},
	{api.InWfi, "wfi", "Z", 0x73 | 5<<20 | 0x08<<25},
	{api.InLr, "lr.w", "L", 0x2f | 2<<12 | 0x08<<25},
	{api.InSc, "sc.w", "A", 0x2f | 2<<12 | 0x0c<<25},
	{api.InAmoSwap, "amoswap.w", "A", 0x2f | 2<<12 | 0x04<<25},
	{api.InAmoAdd, "amoadd.w", "A", 0x2f | 2<<12},
}

// wordOf is the word of a right instruction, laid bit by bit.
func wordOf(in api.Instr, f parts, bits int) int {
	from := map[string]int{"D": in.D, "A": in.A, "B": in.B, "N": in.N}
	word := bits
	for _, x := range f.fields {
		for bit := x.low; bit <= x.high; bit++ {
			if from[x.part]&(1<<(bit-x.low+x.at)) != 0 {
				word += 1 << bit
			}
		}
	}
	return word
}

// registers are what a part of an instruction is tried with, and whether it may be.
func registers(has bool) map[int]bool {
	if has {
		return map[int]bool{-1 << 63: false, -32: false, -1: false, 0: true, 1: true, 21: true, 31: true, 32: false, 1 << 32: false, 1<<63 - 1: false}
	}
	return map[int]bool{-1: false, 0: true, 1: false, 31: false, 32: false, 1 << 32: false}
}

// numbers are what a form's number is tried with: the edges, those beyond them, all of one bit, and what is the same by its lowest bits.
func numbers(f parts) map[int]bool {
	all := map[int]bool{}
	try := func(n int) { all[n] = n >= f.least && n <= f.most && n%f.step == 0 }
	for _, n := range []int{f.least, f.most, 0} {
		for by := -4; by <= 4; by++ {
			try(n + by)
		}
	}
	for bit := range 63 {
		try(1 << bit)
		try(-1 << bit)
		try(1<<bit - 1)
	}
	for _, n := range []int{-1 << 63, 1<<63 - 1, f.least - 1<<32, f.most + 1<<32, 1 << 32, f.least / 2, f.most / 2, 0x555 & f.most, 0xaaa & f.most} {
		try(n)
	}
	return all
}

func sameInstr(t *testing.T, in api.Instr, right bool, f parts, bits int) {
	if code.Right(in) != right {
		t.Fatal("Right", in, !right)
	}
	word, err := code.Encode(in)
	if !right {
		if word != 0 || err != api.ErrArg {
			t.Fatal("Encode", in, word, err)
		}
		return
	}
	if want := wordOf(in, f, bits); word != want || err != api.OK {
		t.Fatalf("Encode %v: %#x %v, not %#x", in, word, err, want)
	}
	if got, err := code.Decode(word); got != in || err != api.OK {
		t.Fatalf("Decode %#x: %v %v, not %v", word, got, err, in)
	}
}

// D1 and D2: of every row, what each of its parts may be, and its words.
func TestRows(t *testing.T) {
	if len(table) != api.InAmoAdd {
		t.Fatal(len(table))
	}
	for _, x := range table {
		f := forms[x.form]
		for d, okD := range registers(f.d) {
			for a, okA := range registers(f.a) {
				for b, okB := range registers(f.b) {
					for _, n := range []int{f.least, f.most, f.least - 1, f.most + 1} {
						in := api.Instr{Op: x.op, D: d, A: a, B: b, N: n}
						right := okD && okA && okB && n >= f.least && n <= f.most
						sameInstr(t, in, right, f, x.bits)
					}
				}
			}
		}
	}
}

func TestNumbers(t *testing.T) {
	for _, x := range table {
		f := forms[x.form]
		in := api.Instr{Op: x.op}
		for n, right := range numbers(f) {
			in.N = n
			sameInstr(t, in, right, f, x.bits)
		}
	}
}

func TestEachRegister(t *testing.T) {
	for _, x := range table {
		f := forms[x.form]
		for r := range api.Regs {
			sameInstr(t, api.Instr{Op: x.op, D: r}, r == 0 || f.d, f, x.bits)
			sameInstr(t, api.Instr{Op: x.op, A: r}, r == 0 || f.a, f, x.bits)
			sameInstr(t, api.Instr{Op: x.op, B: r}, r == 0 || f.b, f, x.bits)
		}
	}
}

func TestNoRow(t *testing.T) {
	for _, op := range []int{0, -1, -1 << 63, api.InAmoAdd + 1, 1000, 1<<32 + api.InAdd, 1<<63 - 1} {
		in := api.Instr{Op: op}
		if code.Right(in) {
			t.Error("Right", op)
		}
		if word, err := code.Encode(in); word != 0 || err != api.ErrArg {
			t.Error("Encode", op, word, err)
		}
		if s := code.Name(op); s != "" {
			t.Error("Name", op, s)
		}
		if l := code.Reads(api.Instr{Op: op, D: 1, A: 2, B: 3}); len(l) != 0 {
			t.Error("Reads", op, l)
		}
		if d := code.Writes(api.Instr{Op: op, D: 1, A: 2, B: 3}); d != 0 {
			t.Error("Writes", op, d)
		}
	}
}

func TestName(t *testing.T) {
	for _, x := range table {
		if s := code.Name(x.op); s != x.name {
			t.Error(x.op, s, x.name)
		}
	}
}

// Words as they stand in the chapter, and some that other assemblers make of the same instructions.
func TestExamples(t *testing.T) {
	for word, in := range map[int]api.Instr{
		0xfff10093: {Op: api.InAddi, D: 1, A: 2, N: -1},
		0xfe000ee3: {Op: api.InBeq, N: -4},
		0x0080006f: {Op: api.InJal, N: 8},
		0x00000013: {Op: api.InAddi},
		0x00008067: {Op: api.InJalr, A: 1},
		0x800000b7: {Op: api.InLui, D: 1, N: 0x80000},
		0x00000073: {Op: api.InEcall},
		0x30200073: {Op: api.InMret},
		0x10500073: {Op: api.InWfi},
		0x0ff0000f: {Op: api.InFence, N: 255},
		0x30009073: {Op: api.InCsrrw, A: 1, N: api.CsrStatus},
		0xf14022f3: {Op: api.InCsrrs, D: 5, N: api.CsrHart},
		0x100322af: {Op: api.InLr, D: 5, A: 6},
		0x185323af: {Op: api.InSc, D: 7, A: 6, B: 5},
		0x0c63a2af: {Op: api.InAmoSwap, D: 5, A: 7, B: 6, N: 2},
		0x0253a2af: {Op: api.InAmoAdd, D: 5, A: 7, B: 5, N: 1},
		0xfe112e23: {Op: api.InSw, A: 2, B: 1, N: -4},
		0x41f55513: {Op: api.InSrai, D: 10, A: 10, N: 31},
		0x023100b3: {Op: api.InMul, D: 1, A: 2, B: 3},
		0x8000006f: {Op: api.InJal, N: -1 << 20},
		0x7ffff0ef: {Op: api.InJal, D: 1, N: 1<<20 - 2},
	} {
		if got, err := code.Encode(in); got != word || err != api.OK {
			t.Errorf("Encode %v: %#x %v, not %#x", in, got, err, word)
		}
		if got, err := code.Decode(word); got != in || err != api.OK {
			t.Errorf("Decode %#x: %v %v, not %v", word, got, err, in)
		}
	}
}

// D2: words that are close to an instruction's, and numbers that are no words.
func TestNoWord(t *testing.T) {
	for _, word := range []int{
		0, 0xffffffff, 0x7fffffff, 0x80000000, 1, 0x12, 0x14,
		0x00002063, 0x00003063, 0x00000003, 0x00001003, 0x00000023, 0x00001067, 0x00001013 | 0x20<<25, 0x00005013 | 0x01<<25, 0x00001033 | 0x20<<25, 0x00002033 | 0x01<<25, 0x00000033 | 0x21<<25,
		0x0000100f, 0x1000000f, 0x8000000f, 0x0000008f, 0x0000800f,
		0x000000f3, 0x00008073, 0x00100073, 0x00004073, 0x00005073, 0x30000073, 0x30300073, 0x302000f3, 0x30208073, 0x10200073, 0x30500073, 0x10400073,
		0x0000002f, 0x0000302f, 0x1010202f, 0x17f0202f, 0x2000202f, 0x8000202f,
		-1, -1 << 63, 1<<63 - 1, 1 << 32, 1<<32 + 0xfff10093, 1<<32 + 0x73, 0xfff10093 - 1<<32, 0x73 - 1<<32, 1<<40 | 0x13,
	} {
		if in, err := code.Decode(word); in != (api.Instr{}) || err != api.ErrCode {
			t.Errorf("%#x: %v %v", word, in, err)
		}
	}
}

// D2: a number that is no word has none, though its lowest 32 bits, or those that rows tell apart, are an instruction's.
func TestBeyondWords(t *testing.T) {
	for _, x := range table {
		f := forms[x.form]
		for _, n := range []int{0, f.least, f.most} {
			word := wordOf(api.Instr{N: n}, f, x.bits)
			for bit := 32; bit < 63; bit++ {
				for _, other := range []int{word + 1<<bit, word - 1<<bit} {
					if in, err := code.Decode(other); in != (api.Instr{}) || err != api.ErrCode {
						t.Fatalf("%#x: %v %v", other, in, err)
					}
				}
			}
		}
	}
}

// D3: each register once, in order, and never 0.
func TestReadsAndWrites(t *testing.T) {
	for _, x := range table {
		f := forms[x.form]
		for _, r := range [][3]int{{0, 0, 0}, {1, 2, 3}, {3, 2, 1}, {4, 4, 4}, {5, 0, 7}, {0, 7, 0}, {31, 31, 0}, {9, 0, 31}, {2, 8, 8}} {
			in := api.Instr{Op: x.op}
			var reads []int
			if f.d {
				in.D = r[0]
			}
			if f.a {
				in.A = r[1]
			}
			if f.b {
				in.B = r[2]
			}
			for _, n := range []int{in.A, in.B} {
				if n != 0 && !slices.Contains(reads, n) {
					reads = append(reads, n)
				}
			}
			if l := code.Reads(in); !slices.Equal(l, reads) {
				t.Error("Reads", in, l, reads)
			}
			if d := code.Writes(in); d != in.D {
				t.Error("Writes", in, d)
			}
			in.N = f.most + 1
			if l, d := code.Reads(in), code.Writes(in); len(l) != 0 || d != 0 {
				t.Error("wrong", in, l, d)
			}
		}
	}
	for _, in := range []api.Instr{{Op: api.InLui, D: 1, A: 2}, {Op: api.InAdd, D: 1, A: 2, B: 32}, {Op: api.InSw, D: 1, A: 2, B: 3}, {Op: api.InBeq, A: 1, B: 2, N: 3}, {Op: api.InEcall, A: 1}} {
		if l, d := code.Reads(in), code.Writes(in); len(l) != 0 || d != 0 {
			t.Error("wrong", in, l, d)
		}
	}
}

// What comes out is the asker's own.
func TestReadsAreNew(t *testing.T) {
	in := api.Instr{Op: api.InAdd, D: 1, A: 2, B: 3}
	one, two := code.Reads(in), code.Reads(in)
	for i := range one {
		one[i] = 77
	}
	_ = append(one[:0], 78, 79, 80)
	if again := code.Reads(in); !slices.Equal(two, []int{2, 3}) || !slices.Equal(again, []int{2, 3}) {
		t.Error(two, again)
	}
}

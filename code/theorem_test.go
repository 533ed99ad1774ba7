package code_test

import (
	"math/rand"
	"testing"

	"headstock/api"
	"headstock/code"
)

// told is whether a word is one of a row's: all bits that are no part's are the row's.
func told(word int) (int, parts, int) {
	for _, x := range table {
		f := forms[x.form]
		same := 1<<32 - 1
		for _, y := range f.fields {
			for bit := y.low; bit <= y.high; bit++ {
				same &^= 1 << bit
			}
		}
		if word&same == x.bits {
			return x.op, f, x.bits
		}
	}
	return 0, parts{}, 0
}

func sameWord(t *testing.T, word int) {
	op, f, bits := told(word)
	in, err := code.Decode(word)
	if op == 0 {
		if in != (api.Instr{}) || err != api.ErrCode {
			t.Fatalf("%#x: %v %v", word, in, err)
		}
		return
	}
	if in.Op != op || err != api.OK || !code.Right(in) || wordOf(in, f, bits) != word {
		t.Fatalf("%#x: %v %v, op %d", word, in, err, op)
	}
	if again, err := code.Encode(in); again != word || err != api.OK {
		t.Fatalf("%#x: %v, %#x %v", word, in, again, err)
	}
}

// D4, from words on: by all fields that rows tell apart, with the other bits none, all, and of each kind.
func TestDecodeThenEncode(t *testing.T) {
	rest := rand.New(rand.NewSource(1))
	for _, low := range []int{0x03, 0x0f, 0x13, 0x17, 0x23, 0x2f, 0x33, 0x37, 0x63, 0x67, 0x6f, 0x73, 0x00, 0x7f, 0x53, 0x3b} {
		for mid := range 8 {
			for high := range 128 {
				fixed := low | mid<<12 | high<<25
				for _, other := range []int{0, 0x01ff8f80, 2 << 20, 5 << 20, 1 << 20, 1 << 7, 1 << 15, rest.Intn(1<<32) & 0x01ff8f80} {
					sameWord(t, fixed|other)
				}
			}
		}
	}
}

func TestAnyWords(t *testing.T) {
	rest := rand.New(rand.NewSource(2))
	for range 100000 {
		sameWord(t, rest.Intn(1<<32))
	}
	// Each bit of each row's words turned: the fields' edges.
	for _, x := range table {
		for bit := range 32 {
			sameWord(t, x.bits^1<<bit)
			for two := range bit {
				sameWord(t, x.bits^1<<bit^1<<two)
			}
		}
	}
}

// D4, from instructions on: unlike ones have unlike words.
func TestEncodeApart(t *testing.T) {
	rest := rand.New(rand.NewSource(3))
	words := map[int]api.Instr{}
	for range 2000 {
		for _, x := range table {
			f := forms[x.form]
			in := api.Instr{Op: x.op, N: f.least + rest.Intn((f.most-f.least)/f.step+1)*f.step}
			if f.d {
				in.D = rest.Intn(api.Regs)
			}
			if f.a {
				in.A = rest.Intn(api.Regs)
			}
			if f.b {
				in.B = rest.Intn(api.Regs)
			}
			word, err := code.Encode(in)
			if err != api.OK || word < 0 || word >= 1<<32 {
				t.Fatal(in, word, err)
			}
			if other, ok := words[word]; ok && other != in {
				t.Fatalf("%#x: %v and %v", word, in, other)
			}
			words[word] = in
			sameInstr(t, in, true, f, x.bits)
		}
	}
}

package label_test

import (
	"math"
	"slices"
	"strings"
	"testing"

	"headstock/api"
	"headstock/code"
	"headstock/label"
)

const (
	least = math.MinInt
	most  = math.MaxInt
)

var (
	longName = strings.Repeat("n", 40)
	branches = []int{api.InBeq, api.InBne, api.InBlt, api.InBge, api.InBltu, api.InBgeu}
)

func ins(in api.Instr) api.Item       { return api.Item{Kind: api.ItemIns, In: in} }
func mark(name string) api.Item       { return api.Item{Kind: api.ItemLabel, Name: name} }
func num(d, n int) api.Item           { return api.Item{Kind: api.ItemNum, In: api.Instr{D: d}, N: n} }
func jump(name string) api.Item       { return to(api.Instr{Op: api.InJal}, name) }
func beq(a, b int, s string) api.Item { return to(api.Instr{Op: api.InBeq, A: a, B: b}, s) }

func to(in api.Instr, name string) api.Item {
	return api.Item{Kind: api.ItemTo, In: in, Name: name}
}

// nops are so many words that do nothing, in as many items as it takes.
func nops(n int) []api.Item {
	var l []api.Item
	for ; n > api.MaxNops; n -= api.MaxNops {
		l = append(l, api.Item{Kind: api.ItemNops, N: api.MaxNops})
	}
	return append(l, api.Item{Kind: api.ItemNops, N: n})
}

func join(parts ...[]api.Item) []api.Item { return slices.Concat(parts...) }

func one(x ...api.Item) []api.Item { return x }

// rightItems are items that may be, one of each kind and shape at least.
func rightItems() []api.Item {
	l := one(
		ins(api.Instr{Op: api.InAddi, D: 1, A: 2, N: -1}),
		ins(api.Instr{Op: api.InEcall}),
		ins(api.Instr{Op: api.InBeq, A: 1, B: 2, N: -4096}),
		ins(api.Instr{Op: api.InAmoAdd, D: 1, A: 2, B: 3, N: 3}),
		mark("x"), mark("!"), mark("~"), mark(longName), mark("task.t.0"),
		jump("x"), jump(longName), to(api.Instr{Op: api.InJal, D: 31}, "x"),
		num(1, 0), num(31, 5), num(9, -1<<31), num(9, 1<<31-1), num(9, 2047), num(9, 2048),
		api.Item{Kind: api.ItemNops}, api.Item{Kind: api.ItemNops, N: 1}, api.Item{Kind: api.ItemNops, N: 4096},
	)
	for _, op := range branches {
		l = append(l, to(api.Instr{Op: op}, "x"), to(api.Instr{Op: op, A: 31, B: 31}, "x"))
	}
	return l
}

// wrongItems are items that may not be, each for one reason.
func wrongItems() []api.Item {
	return one(
		api.Item{},
		ins(api.Instr{}),
		ins(api.Instr{Op: api.InAddi, N: 2048}),
		ins(api.Instr{Op: api.InAdd, D: 32}),
		ins(api.Instr{Op: api.InAmoAdd + 1}),
		ins(api.Instr{Op: api.InBeq, N: 1}),
		mark(""), mark(longName+"n"), mark("a b"), mark("a\n"), mark("\x7f"), mark("ä"),
		jump(""), jump(longName+"n"), jump("a b"),
		to(api.Instr{}, "x"), to(api.Instr{Op: api.InJal, N: 8}, "x"), to(api.Instr{Op: api.InJal, D: 32}, "x"), to(api.Instr{Op: api.InJal, A: 1}, "x"), to(api.Instr{Op: api.InJal, D: -1}, "x"),
		to(api.Instr{Op: api.InBeq, N: -4}, "x"), to(api.Instr{Op: api.InBeq, D: 1}, "x"), to(api.Instr{Op: api.InBgeu, B: 32}, "x"), to(api.Instr{Op: api.InBlt, A: -1}, "x"),
		num(0, 5), num(32, 5), num(-1, 5), num(1, 1<<31), num(1, -1<<31-1), num(1, most), num(1, least), num(least, 0), num(most, 0),
		api.Item{Kind: api.ItemNops, N: -1}, api.Item{Kind: api.ItemNops, N: 4097}, api.Item{Kind: api.ItemNops, N: most}, api.Item{Kind: api.ItemNops, N: least},
	)
}

// B1: items of each kind, and what of them may not be.
func TestRight(t *testing.T) {
	for _, x := range rightItems() {
		if !label.Right(x) {
			t.Error(x)
		}
	}
	for _, x := range wrongItems() {
		if label.Right(x) {
			t.Error(x)
		}
	}
}

// B1: all else of an item is 0, or empty, and no other kind has any.
func TestRightHasNothingElse(t *testing.T) {
	for _, x := range rightItems() {
		y := x
		if x.Kind == api.ItemIns || x.Kind == api.ItemNum || x.Kind == api.ItemNops {
			y.Name = "x"
		} else {
			y.N = 1
		}
		if label.Right(y) {
			t.Error(y)
		}
		if x.Kind == api.ItemIns {
			y = x
			y.N = 1
			if label.Right(y) {
				t.Error(y)
			}
		}
		for _, kind := range []int{0, -1, 6, 1 << 32, 1<<32 + x.Kind, x.Kind - 1<<32, least, most} {
			y = x
			y.Kind = kind
			if label.Right(y) {
				t.Error(y)
			}
		}
	}
	for _, x := range one(mark("x"), num(5, 7), api.Item{Kind: api.ItemNops, N: 3}) {
		for _, in := range []api.Instr{{Op: api.InAddi}, {A: 1}, {B: 1}, {N: 1}, {D: 1, N: -1}} {
			y := x
			y.In = in
			if label.Right(y) {
				t.Error(y)
			}
		}
	}
	for _, x := range one(mark("x"), api.Item{Kind: api.ItemNops, N: 3}) {
		x.In.D = 1
		if label.Right(x) {
			t.Error(x)
		}
	}
}

// B1: each byte of a label, wherever it stands, and how many there may be.
func TestRightLabels(t *testing.T) {
	for b := range 256 {
		may := b >= 33 && b <= 126
		c := string([]byte{byte(b)})
		for _, s := range []string{c, c + "b", "a" + c, "a" + c + "b", longName[1:] + c, c + longName[1:]} {
			if label.Right(mark(s)) != may || label.Right(jump(s)) != may || label.Right(beq(1, 2, s)) != may {
				t.Errorf("%q", s)
			}
		}
	}
	for n := range 100 {
		s := strings.Repeat("x", n)
		if may := n >= 1 && n <= 40; label.Right(mark(s)) != may || label.Right(jump(s)) != may {
			t.Error(n)
		}
	}
}

// B1: only branches and InJal lead to labels, with the number 0 and registers that there are.
func TestRightTo(t *testing.T) {
	for op := -2; op < 60; op++ {
		branch := slices.Contains(branches, op)
		may := branch || op == api.InJal
		if label.Right(to(api.Instr{Op: op}, "x")) != may {
			t.Error(op)
		}
		for r := -1; r <= 33; r++ {
			is := r >= 0 && r < 32
			if label.Right(to(api.Instr{Op: op, A: r}, "x")) != (branch && is || may && r == 0) {
				t.Error(op, "A", r)
			}
			if label.Right(to(api.Instr{Op: op, B: r}, "x")) != (branch && is || may && r == 0) {
				t.Error(op, "B", r)
			}
			if label.Right(to(api.Instr{Op: op, D: r}, "x")) != (op == api.InJal && is || may && r == 0) {
				t.Error(op, "D", r)
			}
		}
		for _, n := range []int{-4096, -4, -2, -1, 1, 2, 4, 8, 4094, 1 << 32, least, most} {
			if label.Right(to(api.Instr{Op: op, N: n}, "x")) {
				t.Error(op, "N", n)
			}
		}
	}
}

// numbers are those that are tried: edges, those beside them, and all of one bit.
func numbers() []int {
	var l []int
	for _, n := range []int{0, 2047, 2048, -2048, 4096, -4096, 6144, 0x7fffffff, -0x80000000, 0x7ffff7ff, 0x7ffff800, -0x7ffff800, 0x12345678, -0x12345678, 0x555555, -0x555556} {
		for by := -3; by <= 3; by++ {
			l = append(l, n+by)
		}
	}
	for bit := range 63 {
		l = append(l, 1<<bit, -1<<bit, 1<<bit-1, 1<<bit+2047, 1<<bit+2048, -1<<bit-2048, -1<<bit-2049)
	}
	return append(l, least, most, least+1, most-1)
}

// B1: what brings a number, by the chapter's words.
func TestNumber(t *testing.T) {
	for _, n := range numbers() {
		for d := -1; d <= 33; d++ {
			l := label.Number(d, n)
			if d < 1 || d > 31 || n < -1<<31 || n > 1<<31-1 {
				if len(l) != 0 {
					t.Fatal(d, n, l)
				}
				continue
			}
			if n >= -2048 && n <= 2047 {
				if !slices.Equal(l, []api.Instr{{Op: api.InAddi, D: d, N: n}}) {
					t.Fatal(d, n, l)
				}
				continue
			}
			if len(l) != 2 {
				t.Fatal(d, n, l)
			}
			h, m := l[0].N, l[1].N
			if l[0] != (api.Instr{Op: api.InLui, D: d, N: h}) || l[1] != (api.Instr{Op: api.InAddi, D: d, A: d, N: m}) {
				t.Fatal(d, n, l)
			}
			if m < -2048 || m > 2047 || (n-m)%4096 != 0 || h < 0 || h >= 1<<20 || int32(h*4096+m) != int32(n) {
				t.Fatal(d, n, h, m)
			}
		}
	}
}

func TestNumberExamples(t *testing.T) {
	for n, want := range map[int][2]int{2048: {1, -2048}, 4095: {1, -1}, 4096: {1, 0}, -2049: {0xfffff, 2047}, 1<<31 - 1: {0x80000, -1}, -1 << 31: {0x80000, 0}, 0x12345678: {0x12345, 0x678}, 0x12345fff: {0x12346, -1}, -4096: {0xfffff, 0}, 1<<31 - 2049: {0x7ffff, 2047}} {
		l := label.Number(7, n)
		if !slices.Equal(l, []api.Instr{{Op: api.InLui, D: 7, N: want[0]}, {Op: api.InAddi, D: 7, A: 7, N: want[1]}}) {
			t.Error(n, l)
		}
	}
	for _, d := range []int{least, most, 1<<32 + 1, 1 - 1<<32} {
		if l := label.Number(d, 5); len(l) != 0 {
			t.Error(d, l)
		}
	}
}

// wants holds items' places and words against those that are told.
func wants(t *testing.T, what string, l []api.Item, places, words []int) {
	t.Helper()
	if got, err := label.Places(l); err != api.OK || !slices.Equal(got, places) {
		t.Errorf("%s: places %v %v, not %v", what, got, err, places)
	}
	if got, err := label.Assemble(l); err != api.OK || !slices.Equal(got, words) {
		t.Errorf("%s: words %#x %v, not %#x", what, got, err, words)
	}
}

// B3 and B4: items whose words stand in the chapter, or in other assemblers' listings.
func TestExamples(t *testing.T) {
	wants(t, "nothing", nil, []int{0}, nil)
	wants(t, "itself", one(mark("x"), beq(0, 0, "x")), []int{0, 0, 4}, []int{0x00000063})
	wants(t, "over two", join(one(jump("x")), nops(2), one(mark("x"))), []int{0, 4, 12, 12}, []int{0x00c0006f, 0x13, 0x13})
	wants(t, "a label alone", one(mark("x")), []int{0, 0}, nil)
	wants(t, "no nops", nops(0), []int{0, 0}, nil)
	wants(t, "back by one", one(mark("x"), ins(api.Instr{Op: api.InAddi, D: 1, A: 2, N: -1}), beq(0, 0, "x")), []int{0, 0, 4, 8}, []int{0xfff10093, 0xfe000ee3})
	wants(t, "numbers", one(num(1, 5), num(5, 0x12345678), num(6, -1), mark("x"), num(10, 2048)), []int{0, 4, 12, 16, 16, 24}, []int{0x00500093, 0x123452b7, 0x67828293, 0xfff00313, 0x00001537, 0x80050513})
	wants(t, "an item's own branch", one(ins(api.Instr{Op: api.InBne, A: 1, B: 2, N: -8}), ins(api.Instr{Op: api.InEcall})), []int{0, 4, 8}, []int{0xfe209ce3, 0x73})
	wants(t, "two ways", one(mark("a"), beq(10, 11, "b"), to(api.Instr{Op: api.InJal, D: 1}, "a"), mark("b"), mark("c"), jump("c"), to(api.Instr{Op: api.InBltu, A: 3, B: 4}, "a")), []int{0, 0, 4, 8, 8, 8, 12, 16}, []int{0x00b50463, 0xffdff0ef, 0x0000006f, 0xfe41eae3})
}

// B2 and B4: a branch back over so many words that it reaches, and over one more.
func TestReachBack(t *testing.T) {
	l := join(one(mark("x")), nops(1024), one(beq(10, 11, "x")))
	words := slices.Repeat([]int{0x13}, 1024)
	wants(t, "reaches", l, []int{0, 0, 4096, 4100}, append(words, 0x80b50063))
	l = join(one(mark("x")), nops(1025), one(beq(10, 11, "x")))
	words = slices.Repeat([]int{0x13}, 1025)
	wants(t, "is long", l, []int{0, 0, 4100, 4108}, append(words, 0x00b51463, 0xff9fe06f))
}

// B2 and B4: the same ahead; 4092 is the last multiple of 4 that a short one reaches.
func TestReachAhead(t *testing.T) {
	l := join(one(beq(10, 11, "x")), nops(1022), one(mark("x")))
	words := slices.Repeat([]int{0x13}, 1022)
	wants(t, "reaches", l, []int{0, 4, 4092, 4092}, append([]int{0x7eb50ee3}, words...))
	l = join(one(beq(10, 11, "x")), nops(1023), one(mark("x")))
	words = slices.Repeat([]int{0x13}, 1023)
	wants(t, "is long", l, []int{0, 8, 4100, 4100}, append([]int{0x00b51463, 0x0000106f}, words...))
}

// B4: of each branch its opposite, with its own registers, and what is behind comes two words behind.
func TestOpposites(t *testing.T) {
	opposites := map[int]int{api.InBeq: api.InBne, api.InBne: api.InBeq, api.InBlt: api.InBge, api.InBge: api.InBlt, api.InBltu: api.InBgeu, api.InBgeu: api.InBltu}
	for _, op := range branches {
		for _, r := range [][2]int{{0, 0}, {1, 2}, {2, 1}, {31, 30}} {
			in := api.Instr{Op: op, A: r[0], B: r[1]}
			l := join(one(mark("back")), nops(2000), one(to(in, "back"), to(in, "ahead")), nops(3000), one(mark("ahead")))
			words, err := label.Assemble(l)
			if err != api.OK || len(words) != 5004 {
				t.Fatal(len(words), err)
			}
			in.Op, in.N = opposites[op], 8
			for i, want := range []api.Instr{in, {Op: api.InJal, N: -8004}, in, {Op: api.InJal, N: 12004}} {
				if word, _ := code.Encode(want); words[2000+i] != word {
					t.Errorf("%v: %d: %#x, not %#x", op, i, words[2000+i], word)
				}
			}
		}
	}
}

// B2: InJal is of one word, over as much code as there may be.
func TestJalIsShort(t *testing.T) {
	l := join(one(mark("back"), to(api.Instr{Op: api.InJal, D: 1}, "ahead")), nops(65534), one(mark("ahead"), jump("back")))
	words, err := label.Assemble(l)
	if err != api.OK || len(words) != api.MaxWords {
		t.Fatal(len(words), err)
	}
	ahead, _ := code.Encode(api.Instr{Op: api.InJal, D: 1, N: 4 * 65535})
	back, _ := code.Encode(api.Instr{Op: api.InJal, N: -4 * 65535})
	if words[0] != ahead || words[65535] != back {
		t.Errorf("%#x %#x", words[0], words[65535])
	}
}

// fails is that all calls tell an error, and nothing beside it.
func fails(t *testing.T, what string, l []api.Item, want api.Errno) {
	t.Helper()
	if got, err := label.Places(l); len(got) != 0 || err != want {
		t.Errorf("%s: places %d %v, not %v", what, len(got), err, want)
	}
	if got, err := label.Assemble(l); len(got) != 0 || err != want {
		t.Errorf("%s: words %d %v, not %v", what, len(got), err, want)
	}
	if at := label.Find(l, "there"); at != -1 {
		t.Errorf("%s: found at %d", what, at)
	}
}

// B3: each error.
func TestErrors(t *testing.T) {
	there := one(mark("there"))
	for _, x := range wrongItems() {
		fails(t, "wrong ahead", join(one(x), there), api.ErrArg)
		fails(t, "wrong behind", join(there, one(x)), api.ErrArg)
	}
	fails(t, "twice", join(there, nops(1), there), api.ErrTarget)
	fails(t, "another twice", join(there, one(mark("x"), mark("y"), mark("x"))), api.ErrTarget)
	fails(t, "no label", join(there, one(jump("nowhere"))), api.ErrTarget)
	fails(t, "no label for a branch", join(one(beq(0, 0, "There")), there), api.ErrTarget)
	fails(t, "led to twice", join(there, one(jump("x"), mark("x"), mark("x"))), api.ErrTarget)
	fails(t, "items", join(there, slices.Repeat(nops(0), api.MaxItems)), api.ErrLong)
	fails(t, "words", join(there, nops(api.MaxWords+1)), api.ErrLong)
	fails(t, "very many words", join(there, slices.Repeat(nops(api.MaxNops), api.MaxItems-1)), api.ErrLong)
	fails(t, "two words of a number", join(there, nops(api.MaxWords-1), one(num(1, 2048))), api.ErrLong)
	fails(t, "two words of a branch", join(there, nops(api.MaxWords-1), one(beq(0, 0, "there"))), api.ErrLong)
}

// B3: where several errors apply, the first one by the chapter's order, wherever it stands.
func TestErrorsInOrder(t *testing.T) {
	there := one(mark("there"))
	wrong, twice, nowhere, long := one(mark("")), one(mark("there")), one(jump("nowhere")), nops(api.MaxWords+1)
	many := slices.Repeat(nops(0), api.MaxItems)
	for _, other := range [][]api.Item{wrong, twice, nowhere, long, join(wrong, twice, nowhere, long)} {
		fails(t, "items", join(there, other, many), api.ErrLong)
		fails(t, "items", join(there, many, other), api.ErrLong)
	}
	for _, other := range [][]api.Item{twice, nowhere, long, join(twice, nowhere, long)} {
		fails(t, "wrong", join(there, wrong, other), api.ErrArg)
		fails(t, "wrong", join(there, other, wrong), api.ErrArg)
	}
	for _, other := range [][]api.Item{twice, nowhere} {
		fails(t, "target", join(there, other, long), api.ErrTarget)
		fails(t, "target", join(there, long, other), api.ErrTarget)
	}
	fails(t, "all but long", join(there, nowhere, twice, slices.Repeat(nops(0), api.MaxItems-4), wrong), api.ErrArg)
}

// B3: as much as there may be.
func TestMost(t *testing.T) {
	l := join(one(mark("there")), slices.Repeat(nops(1), api.MaxItems-1))
	places, err := label.Places(l)
	if err != api.OK || len(places) != api.MaxItems+1 || places[api.MaxItems] != 4*(api.MaxItems-1) {
		t.Error(len(places), err)
	}
	for _, last := range [][]api.Item{nops(2), one(num(1, 2048)), one(beq(0, 0, "there"))} {
		l = join(one(mark("there")), nops(api.MaxWords-2), last)
		places, err = label.Places(l)
		words, bad := label.Assemble(l)
		if err != api.OK || bad != api.OK || len(words) != api.MaxWords || places[len(l)] != 4*api.MaxWords {
			t.Error(len(words), err, bad)
		}
	}
}

// A branch that becomes long takes the code beyond what there may be, though all short ones would not.
func TestLongBranchesCount(t *testing.T) {
	l := join(one(mark("there")), nops(1024), one(beq(0, 0, "there"), beq(0, 0, "there")), nops(api.MaxWords-1026-1))
	if words, err := label.Assemble(l); err != api.OK || len(words) != api.MaxWords {
		t.Error(len(words), err)
	}
	fails(t, "one more", append(l, nops(1)...), api.ErrLong)
}

// B4: labels, wherever they stand, and what is none.
func TestFind(t *testing.T) {
	l := join(one(mark("a"), beq(1, 2, "z"), mark("b"), num(1, 5000), mark("c"), mark("d")), nops(2000), one(mark("z"), jump("a"), mark("end")))
	for name, want := range map[string]int{"a": 0, "b": 8, "c": 16, "d": 16, "z": 8016, "end": 8020, "": -1, "A": -1, "e": -1, "en": -1, "endd": -1, longName + "n": -1, " ": -1} {
		if got := label.Find(l, name); got != want {
			t.Errorf("%q: %d, not %d", name, got, want)
		}
	}
	if got := label.Find(nil, "a"); got != -1 {
		t.Error(got)
	}
	if got := label.Find(one(jump("x")), "x"); got != -1 {
		t.Error(got)
	}
}

// What is handed in is not written into, nor what stands behind it, and what comes out is the asker's own.
func TestNothingIsShared(t *testing.T) {
	room := join(one(mark("x"), num(1, 5000), beq(1, 2, "x"), ins(api.Instr{Op: api.InEcall}), jump("x")), nops(2), one(mark("behind"), mark("behind")))
	before := slices.Clone(room)
	l := room[:6]
	places, _ := label.Places(l)
	words, _ := label.Assemble(l)
	label.Find(l, "x")
	numbers := label.Number(3, 5000)
	if !slices.Equal(room, before) {
		t.Error(room)
	}
	for i := range places[:cap(places)] {
		places[:cap(places)][i] = 77
	}
	for i := range words[:cap(words)] {
		words[:cap(words)][i] = 77
	}
	for i := range numbers[:cap(numbers)] {
		numbers[:cap(numbers)][i] = api.Instr{N: 77}
	}
	wants(t, "again", l, []int{0, 0, 8, 12, 16, 20, 28}, []int{0x000010b7, 0x38808093, 0xfe208ce3, 0x73, 0xff1ff06f, 0x13, 0x13})
	if l := label.Number(3, 5000); !slices.Equal(l, []api.Instr{{Op: api.InLui, D: 3, N: 1}, {Op: api.InAddi, D: 3, A: 3, N: 904}}) {
		t.Error(l)
	}
}

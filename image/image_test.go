package image_test

import (
	"fmt"
	"hash/adler32"
	"math"
	"slices"
	"strings"
	"testing"

	"headstock/api"
	"headstock/image"
)

const (
	least = math.MinInt
	most  = math.MaxInt
)

// withSum is a text with its last line, reckoned by the library's own sum of that kind.
func withSum(text string) string {
	return text + fmt.Sprintf("sum %08x\n", adler32.Checksum([]byte(text)))
}

// textOf is a right image's text, by the chapter's words.
func textOf(m api.Image) string {
	text := fmt.Sprintf("image %d\n", m.Memory)
	for _, x := range m.Symbols {
		text += fmt.Sprintf("%08x %s\n", x.Place, x.Name)
	}
	lines := []string{text + "code\n"}
	for l := range slices.Chunk(m.Words, 8) {
		lines = append(lines, strings.Trim(fmt.Sprintf("%08x", l), "[]")+"\n")
	}
	return withSum(strings.Join(lines, ""))
}

// names are so many, which rise.
func names(n int) []api.Symbol {
	var l []api.Symbol
	for i := range n {
		l = append(l, api.Symbol{Name: fmt.Sprintf("n%06d", i)})
	}
	return l
}

// some is an image with all that one may have.
func some() api.Image {
	return api.Image{
		Words:   []int{0x13, 0, 0xffffffff, 0xabcdef01, 7, 8, 9, 10, 11},
		Memory:  77,
		Symbols: []api.Symbol{{Name: "!", Place: 36}, {Name: "code", Place: 0}, {Name: "task.t", Place: 8}, {Name: "~~", Place: 8}},
	}
}

const someText = "image 77\n" +
	"00000024 !\n00000000 code\n00000008 task.t\n00000008 ~~\n" +
	"code\n" +
	"00000013 00000000 ffffffff abcdef01 00000007 00000008 00000009 0000000a\n" +
	"0000000b\n"

// rightImages are images that may be, at each edge.
func rightImages() []api.Image {
	longName := strings.Repeat("n", 40)
	return []api.Image{
		{},
		{Memory: 1}, {Memory: 10}, {Memory: 4096},
		{Words: []int{0}}, {Words: []int{1<<32 - 1}}, {Words: make([]int, 7)}, {Words: make([]int, 8)}, {Words: make([]int, 9)}, {Words: make([]int, 16)},
		{Words: make([]int, 65536), Memory: 4096, Symbols: []api.Symbol{{Name: "end", Place: 4 * 65536}}},
		{Words: slices.Repeat([]int{1<<32 - 1}, 65535)},
		{Symbols: []api.Symbol{{Name: "x"}}}, {Symbols: []api.Symbol{{Name: "!"}}}, {Symbols: []api.Symbol{{Name: "~"}}}, {Symbols: []api.Symbol{{Name: longName}}},
		{Symbols: []api.Symbol{{Name: "A"}, {Name: "B"}, {Name: "a"}, {Name: "a!"}, {Name: "aa"}, {Name: "b"}}},
		{Symbols: []api.Symbol{{Name: "code"}, {Name: "image"}, {Name: "sum"}}},
		{Words: []int{5}, Symbols: []api.Symbol{{Name: "x", Place: 4}, {Name: "y"}}},
		{Symbols: names(1000)},
		some(),
	}
}

// wrongImages are images that may not be, each for one reason.
func wrongImages() []api.Image {
	l := []api.Image{
		{Memory: -1}, {Memory: 4097}, {Memory: most}, {Memory: least},
		{Words: []int{-1}}, {Words: []int{1 << 32}}, {Words: []int{most}}, {Words: []int{least}}, {Words: []int{0, 1, 1 << 32}},
		{Words: make([]int, 65537)},
		{Symbols: names(1001)},
		{Symbols: []api.Symbol{{Name: "x"}, {Name: "x"}}}, {Words: []int{5}, Symbols: []api.Symbol{{Name: "x"}, {Name: "x", Place: 4}}},
		{Symbols: []api.Symbol{{Name: "y"}, {Name: "x"}}}, {Symbols: []api.Symbol{{Name: "a"}, {Name: "b"}, {Name: "B"}}}, {Symbols: []api.Symbol{{Name: "aa"}, {Name: "a"}}}, {Symbols: []api.Symbol{{Name: "10"}, {Name: "1"}, {Name: "9"}}},
	}
	for _, name := range []string{"", "a b", " ", "a\n", "\n", "\x7f", "\x80", "\xff", "ä", "\x00", strings.Repeat("n", 41)} {
		l = append(l, api.Image{Symbols: []api.Symbol{{Name: name}}})
	}
	for _, place := range []int{-1, -4, 1, 2, 3, 5, 6, 7, 12, 1 << 32, most, least, most - 3} {
		l = append(l, api.Image{Words: []int{1, 2}, Symbols: []api.Symbol{{Name: "x", Place: place}}})
	}
	return append(l, api.Image{Symbols: []api.Symbol{{Name: "x", Place: 4}}})
}

// M1: what may be, and what may not.
func TestRight(t *testing.T) {
	for i, m := range rightImages() {
		if !image.Right(m) {
			t.Error("right", i)
		}
	}
	for i, m := range wrongImages() {
		if image.Right(m) {
			t.Error("wrong", i)
		}
	}
}

// M1: each byte of a name, wherever it stands, and how many there may be.
func TestRightNames(t *testing.T) {
	for b := range 256 {
		c := string([]byte{byte(b)})
		for _, s := range []string{c, c + "b", "a" + c, "a" + c + "b"} {
			if m := (api.Image{Symbols: []api.Symbol{{Name: s}}}); image.Right(m) != (b >= 33 && b <= 126) {
				t.Errorf("%q", s)
			}
		}
	}
	for n := range 100 {
		m := api.Image{Symbols: []api.Symbol{{Name: strings.Repeat("x", n)}}}
		if image.Right(m) != (n >= 1 && n <= 40) {
			t.Error(n)
		}
	}
}

// M1: a wrong one at any place of many.
func TestRightLooksAtAll(t *testing.T) {
	for i := range 1000 {
		m := api.Image{Words: make([]int, 1000), Symbols: names(1000)}
		m.Words[i] = -1
		if image.Right(m) {
			t.Fatal("word", i)
		}
		m.Words[i], m.Symbols[i].Place = 0, 2
		if image.Right(m) {
			t.Fatal("place", i)
		}
		m.Symbols[i].Place = 4000
		if !image.Right(m) {
			t.Fatal("end", i)
		}
		m.Symbols[i].Name = m.Symbols[(i+1)%1000].Name
		if image.Right(m) {
			t.Fatal("name", i)
		}
	}
}

// M2 and M3: texts that are written out here.
func TestExamples(t *testing.T) {
	for _, x := range []struct {
		m    api.Image
		text string
		sum  int
	}{
		{api.Image{}, "image 0\ncode\nsum 1e730403\n", 0x1e730403},
		{api.Image{Memory: 4096, Words: []int{0x13}}, "image 4096\ncode\n00000013\nsum 5cb20634\n", 0x5cb20634},
	} {
		text, err := image.Print(x.m)
		if text != x.text || err != api.OK || image.Sum(x.m) != x.sum {
			t.Errorf("%q %v %#x", text, err, image.Sum(x.m))
		}
	}
	if text, err := image.Print(some()); text != withSum(someText) || err != api.OK {
		t.Errorf("%q %v", text, err)
	}
}

// M2: the chapter's own reckoning, byte by byte.
func TestSum(t *testing.T) {
	for i, m := range rightImages() {
		text := textOf(m)
		a, b := 1, 0
		for _, c := range []byte(text[:len(text)-13]) {
			a = (a + int(c)) % 65521
			b = (b + a) % 65521
		}
		if image.Sum(m) != 65536*b+a {
			t.Error(i, image.Sum(m))
		}
	}
	for i, m := range wrongImages() {
		if image.Sum(m) != 0 {
			t.Error("wrong", i)
		}
	}
}

// M3: of right ones the chapter's text, of others an error alone.
func TestPrint(t *testing.T) {
	for i, m := range rightImages() {
		if text, err := image.Print(m); text != textOf(m) || err != api.OK {
			t.Error(i, err)
		}
	}
	for i, m := range wrongImages() {
		if text, err := image.Print(m); text != "" || err != api.ErrArg {
			t.Error("wrong", i, text, err)
		}
	}
}

// refuses holds what Parse says of a text that is none.
func refuses(t *testing.T, s string, want api.Errno, line int) {
	t.Helper()
	m, err, at := image.Parse(s)
	if err != want || at != line || len(m.Words)+len(m.Symbols)+m.Memory != 0 {
		if len(s) > 300 {
			s = s[:300]
		}
		t.Errorf("%q: %v line %d, not %v line %d", s, err, at, want, line)
	}
}

// M4: all that is printed is read.
func TestParse(t *testing.T) {
	for i, m := range rightImages() {
		text := textOf(m)
		got, err, line := image.Parse(text)
		if err != api.OK || line != 0 || !image.Same(got, m) || got.Memory != m.Memory || !slices.Equal(got.Words, m.Words) || !slices.Equal(got.Symbols, m.Symbols) {
			t.Error(i, err, line)
		}
	}
}

// M4: another sum of eight digits, and its line.
func TestParseSum(t *testing.T) {
	for _, m := range rightImages() {
		text := textOf(m)
		sum, lines := image.Sum(m), strings.Count(text, "\n")
		for _, other := range []int{0, 1, sum ^ 1, sum ^ 1<<31, sum ^ 0xffff, 1<<32 - 1} {
			if other != sum {
				refuses(t, fmt.Sprintf("%ssum %08x\n", text[:len(text)-13], other), api.ErrSum, lines)
			}
		}
	}
	refuses(t, "image 0\ncode\nsum 00000000\n", api.ErrSum, 3)
	refuses(t, "image 1\ncode\nsum 1e730403\n", api.ErrSum, 3)
	refuses(t, "image 0\n00000000 x\ncode\nsum 1e730403\n", api.ErrSum, 4)
	refuses(t, "image 0\ncode\n00000000\nsum 1e730403\n", api.ErrSum, 4)
}

// wrongBodies are texts that are no image's, but for the last line.
func wrongBodies() []string {
	l := []string{
		"", "\n", "code\n", "image 0\n", "image 0\ncode", "image 0code\n", "image 0\n\ncode\n", "image 0\ncode\n\n", "\nimage 0\ncode\n", "image 0\ncode\ncode\n", "image 0\nimage 0\ncode\n",
		"image\ncode\n", "image \ncode\n", "image  0\ncode\n", " image 0\ncode\n", "image 0 \ncode\n", "image 00\ncode\n", "image 01\ncode\n", "image -0\ncode\n", "image +0\ncode\n", "image -1\ncode\n", "image +1\ncode\n", "image 4097\ncode\n", "image 0x1\ncode\n", "image 1_0\ncode\n", "image 99999999999999999999\ncode\n", "image 18446744073709551617\ncode\n", "image a\ncode\n", "0\ncode\n", "Image 0\ncode\n", "image\t0\ncode\n", "image 0\r\ncode\r\n",
		"image 0\nCode\n", "image 0\n code\n", "image 0\ncode \n", "image 0\ncod\n", "image 0\ncodes\n",
		"image 0\ncode\n0000000\n", "image 0\ncode\n000000000\n", "image 0\ncode\n0\n", "image 0\ncode\n0000000A\n", "image 0\ncode\n0000000g\n", "image 0\ncode\n00000000 \n", "image 0\ncode\n 00000000\n", "image 0\ncode\n00000000\n00000000\n", "image 0\ncode\n00000000  00000000\n", "image 0\ncode\n00000000\t00000000\n", "image 0\ncode\n00000000", "image 0\ncode\n-0000001\n", "image 0\ncode\n+0000001\n", "image 0\ncode\n0x000001\n", "image 0\ncode\n0000_001\n", "image 0\ncode\n100000000\n", "image 0\ncode\n0000000000000000\n", "image 0\ncode\n00000000\n\n", "image 0\ncode\n\n00000000\n", "image 0\ncode\n00000000\u00a000000000\n",
		"image 0\n00000000\ncode\n", "image 0\n00000000 \ncode\n", "image 0\n00000000  x\ncode\n", "image 0\n00000000 x \ncode\n", "image 0\n00000000 x y\ncode\n", "image 0\n0000000 x\ncode\n", "image 0\n000000000 x\ncode\n", "image 0\n00000000x\ncode\n", "image 0\n x\ncode\n", "image 0\nx\ncode\n", "image 0\n00000001 x\ncode\n", "image 0\n00000004 x\ncode\n", "image 0\n0000000A x\ncode\n", "image 0\n-0000000 x\ncode\n", "image 0\n00000000 \x7f\ncode\n", "image 0\n00000000 \u00e4\ncode\n", "image 0\n00000000 " + strings.Repeat("n", 41) + "\ncode\n",
		"image 0\n00000000 x\n00000000 x\ncode\n", "image 0\n00000000 y\n00000000 x\ncode\n", "image 0\n00000000 x\n\n00000000 y\ncode\n", "image 0\n00000000 x\n00000000 y\n", "image 0\ncode\n00000000 x\n",
	}
	row := strings.Repeat("00000000 ", 7)
	l = append(l, "image 0\ncode\n"+row+"00000000 00000000\n", "image 0\ncode\n"+row+"\n", "image 0\ncode\n"+row[:62]+"\n00000000\n", "image 0\ncode\n00000000\n"+row+"00000000\n")
	full := "image 0\ncode\n" + strings.Repeat(row+"00000000\n", 8192)
	l = append(l, full+"00000000\n", full+"\n", full+row+"00000000\n")
	many := textOf(api.Image{Symbols: names(1001)})
	return append(l, many[:len(many)-13])
}

// M4: what no image is printed as, whatever its sum; and what is, with a last line that is none.
func TestParseForm(t *testing.T) {
	for _, text := range wrongBodies() {
		refuses(t, withSum(text), api.ErrForm, 0)
		refuses(t, text+"sum 00000000\n", api.ErrForm, 0)
		refuses(t, text, api.ErrForm, 0)
	}
	for _, last := range []string{"", "\n", "sum\n", "sum \n", "sum 1e730403", "sum 1e730403\n\n", "sum 1E730403\n", "sum  1e730403\n", "sum 1e730403 \n", "sum 1e73040\n", "sum 1e7304030\n", "sum 01e730403\n", "sum  1e73040\n", "sum 1e73040\n\n", "sum +1e73040\n", "sum -1e73040\n", "sum 0x1e7304\n", "sum 1_e73043\n", "Sum 1e730403\n", "sun 1e730403\n", "sum\t1e730403\n", " sum 1e730403\n", "sum 1e730403\r\n", "sum 1e730403\nsum 1e730403\n", "1e730403\n", "sum 1e73040g\n", "sum 1e730403x", "sum sum 0403\n", "sum 1e7\n0403\n", "sum 1e73040\x00\n"} {
		refuses(t, "image 0\ncode\n"+last, api.ErrForm, 0)
	}
	for _, s := range []string{"", "x", "\n", "sum 00000001\n", "sum 00000000\n", "um 00000001\n", strings.Repeat("\n", 14), strings.Repeat("0", 13)} {
		refuses(t, s, api.ErrForm, 0)
	}
	text := withSum(someText)
	for i := range text {
		refuses(t, text[:i], api.ErrForm, 0)
		if i > 0 {
			refuses(t, text[i:], api.ErrForm, 0)
		}
	}
}

// M4: so many bytes, and one more.
func TestParseLong(t *testing.T) {
	for _, c := range []string{"0", "\n", " ", "image 0\n", "00000000 ", "00000000 x\n", "\ncode\n", "sum 00000000\n", "\xff"} {
		s := strings.Repeat(c, 1000001)
		refuses(t, s[:1000001], api.ErrArg, 0)
		refuses(t, s[len(s)-1000001:], api.ErrArg, 0)
		refuses(t, s[:1000000], api.ErrForm, 0)
		refuses(t, s[len(s)-1000000:], api.ErrForm, 0)
		refuses(t, "image 0\ncode\n"+s[:1000000-26]+"sum 00000000\n", api.ErrForm, 0)
	}
	refuses(t, withSum(someText)+strings.Repeat(" ", 1000000), api.ErrArg, 0)
}

// M5: each symbol at its place, and none that is not there.
func TestFind(t *testing.T) {
	for n := range 40 {
		m := api.Image{Words: make([]int, 64)}
		for i := range n {
			m.Symbols = append(m.Symbols, api.Symbol{Name: string([]byte{byte(40 + 2*i)}), Place: 4 * (i * 7 % 64)})
		}
		for b := range 256 {
			want := -1
			if i := (b - 40) / 2; b >= 40 && b%2 == 0 && i < n {
				want = 4 * (i * 7 % 64)
			}
			if got := image.Find(m, string([]byte{byte(b)})); got != want {
				t.Error(n, b, got)
			}
		}
	}
	for _, name := range []string{"", "cod", "code ", "codf", "CODE", "task", "task.t.", "~", "~~~", "\xff", "\x00", strings.Repeat("n", 5000)} {
		if got := image.Find(some(), name); got != -1 {
			t.Errorf("%q: %d", name, got)
		}
	}
	for _, x := range some().Symbols {
		if got := image.Find(some(), x.Name); got != x.Place {
			t.Error(x, got)
		}
	}
}

// M5: in what is not right there is nothing.
func TestFindWrong(t *testing.T) {
	for i, m := range wrongImages() {
		for _, x := range m.Symbols {
			if image.Find(m, x.Name) != -1 {
				t.Error(i, x)
			}
		}
		m.Symbols = append([]api.Symbol{{Name: "\x21"}}, m.Symbols...)
		if image.Find(m, "!") != -1 {
			t.Error(i)
		}
	}
	for _, m := range []api.Image{{Memory: 4097}, {Words: []int{-1}}, {Words: make([]int, 65537)}} {
		m.Symbols = []api.Symbol{{Name: "x"}}
		if image.Find(m, "x") != -1 {
			t.Error(m.Memory)
		}
	}
}

// M5: one thing that is another makes them others, right or not.
func TestSame(t *testing.T) {
	all := append(rightImages(), wrongImages()...)
	for i, m := range all {
		other := api.Image{Words: slices.Clone(m.Words), Memory: m.Memory, Symbols: slices.Clone(m.Symbols)}
		if !image.Same(m, other) || !image.Same(other, m) {
			t.Error(i)
		}
		for j, x := range others(other) {
			if image.Same(m, x) || image.Same(x, m) {
				t.Error(i, j)
			}
		}
	}
	if !image.Same(api.Image{Words: []int{}}, api.Image{Symbols: []api.Symbol{}}) {
		t.Error("without elements")
	}
}

// others are images that differ from one in one thing.
func others(m api.Image) []api.Image {
	change := func(by func(*api.Image)) api.Image {
		x := api.Image{Words: slices.Clone(m.Words), Memory: m.Memory, Symbols: slices.Clone(m.Symbols)}
		by(&x)
		return x
	}
	l := []api.Image{
		change(func(x *api.Image) { x.Memory ^= 1 }),
		change(func(x *api.Image) { x.Words = append(x.Words, 0) }),
		change(func(x *api.Image) { x.Symbols = append(x.Symbols, api.Symbol{}) }),
	}
	if n := len(m.Words); n > 0 {
		l = append(l,
			change(func(x *api.Image) { x.Words = x.Words[1:] }),
			change(func(x *api.Image) { x.Words[0] ^= 1 << 31 }),
			change(func(x *api.Image) { x.Words[n-1] ^= 1 }))
	}
	if n := len(m.Symbols); n > 0 {
		l = append(l,
			change(func(x *api.Image) { x.Symbols = x.Symbols[1:] }),
			change(func(x *api.Image) { x.Symbols[0].Name += "x" }),
			change(func(x *api.Image) { x.Symbols[n-1].Place ^= 4 }))
	}
	return l
}

// What is handed in is not written into, nor what stands behind its length; and two answers share nothing.
func TestMemory(t *testing.T) {
	words := append(some().Words, 91, 92, 93)
	symbols := append(some().Symbols, api.Symbol{Name: "behind", Place: 3})
	m := api.Image{Words: words[:9], Memory: 77, Symbols: symbols[:4]}
	image.Right(m)
	image.Sum(m)
	image.Print(m)
	image.Find(m, "code")
	image.Same(m, some())
	if !slices.Equal(words, append(some().Words, 91, 92, 93)) || !slices.Equal(symbols, append(some().Symbols, api.Symbol{Name: "behind", Place: 3})) {
		t.Error("written into")
	}
	one, _, _ := image.Parse(withSum(someText))
	two, _, _ := image.Parse(withSum(someText))
	for i := range one.Words {
		one.Words[i] = -1
	}
	for i := range one.Symbols {
		one.Symbols[i] = api.Symbol{}
	}
	for range 10 {
		one.Words = append(one.Words, -1)
		one.Symbols = append(one.Symbols, api.Symbol{})
	}
	if !image.Same(two, some()) {
		t.Error("shared")
	}
	if three, _, _ := image.Parse(withSum(someText)); !image.Same(three, some()) {
		t.Error("kept")
	}
}

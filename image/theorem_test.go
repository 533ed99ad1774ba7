package image_test

import (
	"fmt"
	"math/rand"
	"slices"
	"strings"
	"testing"

	"headstock/api"
	"headstock/image"
)

// anyImage is a right image.
func anyImage(rest *rand.Rand) api.Image {
	m := api.Image{Memory: rest.Intn(4097)}
	for range rest.Intn(40) {
		m.Words = append(m.Words, int(rest.Uint32())>>rest.Intn(32))
	}
	names := map[string]bool{}
	for range rest.Intn(12) {
		b := make([]byte, 1+rest.Intn(1+rest.Intn(40)))
		for i := range b {
			b[i] = byte(33 + rest.Intn(94))
		}
		names[string(b)] = true
	}
	for name := range names {
		m.Symbols = append(m.Symbols, api.Symbol{Name: name})
	}
	slices.SortFunc(m.Symbols, func(a, b api.Symbol) int { return strings.Compare(a.Name, b.Name) })
	for i := range m.Symbols {
		m.Symbols[i].Place = 4 * rest.Intn(len(m.Words)+1)
	}
	return m
}

// M6: Parse undoes Print, and Print Parse.
func TestThereAndBack(t *testing.T) {
	rest := rand.New(rand.NewSource(4))
	for range 3000 {
		m := anyImage(rest)
		text, err := image.Print(m)
		if err != api.OK || text != textOf(m) {
			t.Fatal(m, err)
		}
		got, err, line := image.Parse(text)
		if err != api.OK || line != 0 || !image.Same(got, m) {
			t.Fatal(m, got, err, line)
		}
		again, err := image.Print(got)
		if err != api.OK || again != text {
			t.Fatal(text, again, err)
		}
		for _, x := range m.Symbols {
			if image.Find(got, x.Name) != x.Place {
				t.Fatal(x)
			}
		}
	}
}

// M6: each byte of some texts made each other one is no image's text: it is an error of the two that there are, which the sum's digits alone decide.
func TestOneByte(t *testing.T) {
	rest := rand.New(rand.NewSource(5))
	texts := []string{textOf(api.Image{}), withSum(someText)}
	for range 4 {
		texts = append(texts, textOf(anyImage(rest)))
	}
	for _, text := range texts {
		for i := range text {
			for by := 1; by < 256; by++ {
				b := []byte(text)
				b[i] ^= byte(by)
				broken(t, string(b))
			}
		}
	}
}

// broken holds what Parse says of a text that is none: with the right sum instead of its own, it is one, or it is not.
func broken(t *testing.T, s string) {
	t.Helper()
	m, err, line := image.Parse(s)
	if len(m.Words)+len(m.Symbols)+m.Memory != 0 {
		t.Fatalf("%q: %v beside an error", s, m)
	}
	form, at := api.ErrForm, 0
	sum := strings.LastIndex(s, "sum ")
	if sum >= 0 && len(s) == sum+13 && s[sum+12] == '\n' && isEight(s[sum+4:sum+12]) {
		if _, err, _ := image.Parse(withSum(s[:sum])); err == api.OK {
			form, at = api.ErrSum, strings.Count(s, "\n")
		}
	}
	if err != form || line != at {
		t.Fatalf("%q: %v line %d, not %v line %d", s, err, line, form, at)
	}
}

func isEight(s string) bool { return len(s) == 8 && strings.Trim(s, "0123456789abcdef") == "" }

// M4 and M6: texts with pieces taken out, put in or moved are read only if they are printed again as they were.
func TestAnyText(t *testing.T) {
	rest := rand.New(rand.NewSource(6))
	pieces := []string{"\n", " ", "0", "00000000", "code\n", "image 0\n", "sum ", "00000000 x\n", "a", "-", "\n\n", "ffffffff "}
	for range 20000 {
		text := textOf(anyImage(rest))
		body := text[:len(text)-13]
		for range 1 + rest.Intn(2) {
			i := rest.Intn(len(body) + 1)
			j := min(len(body), i+rest.Intn(12))
			body = body[:i] + pieces[rest.Intn(len(pieces))] + body[j:]
		}
		s := withSum(body)
		m, err, line := image.Parse(s)
		if err == api.OK {
			if again, _ := image.Print(m); again != s || textOf(m) != s {
				t.Fatalf("%q", s)
			}
		} else if err != api.ErrForm || line != 0 || mayBe(body) {
			t.Fatalf("%q %v %d", s, err, line)
		}
	}
}

// mayBe is whether a text without its last line is an image's, read line by line by the chapter's words.
func mayBe(body string) bool {
	lines := strings.SplitAfter(body, "\n")
	if lines[len(lines)-1] != "" {
		return false
	}
	var memory int
	if _, err := fmt.Sscanf(lines[0], "image %d\n", &memory); err != nil || lines[0] != fmt.Sprintf("image %d\n", memory) || memory < 0 || memory > 4096 {
		return false
	}
	code := slices.Index(lines, "code\n")
	if code < 0 {
		return false
	}
	rows := lines[code+1 : len(lines)-1]
	words := 0
	for i, row := range rows {
		l := strings.Split(strings.TrimSuffix(row, "\n"), " ")
		if len(l) > 8 || len(l) < 8 && i < len(rows)-1 || slices.ContainsFunc(l, func(s string) bool { return !isEight(s) }) {
			return false
		}
		words += len(l)
	}
	last := ""
	for _, line := range lines[1:code] {
		if len(line) < 11 || !isEight(line[:8]) || line[8] != ' ' {
			return false
		}
		name := line[9 : len(line)-1]
		var place int
		fmt.Sscanf(line[:8], "%x", &place)
		if len(name) > 40 || strings.ContainsAny(name, " \n") || name <= last || place%4 != 0 || place > 4*words {
			return false
		}
		last = name
	}
	return true
}

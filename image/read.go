package image

import (
	"strconv"
	"strings"

	"headstock/api"
)

// cutSum is a text without its last line, and the sum that this one tells.
func cutSum(s string) (string, int, bool) {
	at := len(s) - len(sumLine(0))
	if at < 0 {
		return "", 0, false
	}
	sum := number(strings.TrimSuffix(strings.TrimPrefix(s[at:], sumWord), "\n"))
	return s[:at], sum, s[at:] == sumLine(sum)
}

// read is the image that a text without its last line is of, if there is one; else any image, which need not be right.
func read(text string) api.Image {
	// No symbol's line is taken for the one that parts symbols from words: there are digits ahead of its name.
	ahead, words, _ := strings.Cut(text, "\n"+codeLine)
	first, symbols, some := strings.Cut(ahead, "\n")
	m := api.Image{Words: readWords(words)}
	m.Memory, _ = strconv.Atoi(strings.TrimPrefix(first, headWord))
	if some {
		m.Symbols = readSymbols(symbols)
	}
	return m
}

func readSymbols(text string) []api.Symbol {
	var l []api.Symbol
	for line := range strings.SplitSeq(text, "\n") {
		place, name, _ := strings.Cut(line, " ")
		l = append(l, api.Symbol{Name: strings.Clone(name), Place: number(place)})
	}
	return l
}

func readWords(text string) []int {
	var l []int
	for word := range strings.FieldsSeq(text) {
		l = append(l, number(word))
	}
	return l
}

// number is what eight digits tell; of anything else it is any word.
func number(s string) int {
	n, _ := strconv.ParseUint(s, 16, 32)
	return int(n)
}

package image

import (
	"strconv"
	"strings"

	"headstock/api"
)

const (
	headWord  = "image "
	codeLine  = "code\n"
	sumWord   = "sum "
	hexDigits = "0123456789abcdef"
	// perLine is how many words a line has.
	perLine = 8
	eight   = 8
)

// body is a right image's text but its last line.
func body(m api.Image) string {
	var b strings.Builder
	b.WriteString(headWord + strconv.Itoa(m.Memory) + "\n")
	for _, x := range m.Symbols {
		b.WriteString(digits(x.Place) + " " + x.Name + "\n")
	}
	b.WriteString(codeLine)
	for i, word := range m.Words {
		b.WriteString(digits(word))
		if i%perLine == perLine-1 || i == len(m.Words)-1 {
			b.WriteByte('\n')
		} else {
			b.WriteByte(' ')
		}
	}
	return b.String()
}

func sumLine(sum int) string { return sumWord + digits(sum) + "\n" }

// digits are a word's eight.
func digits(n int) string {
	var d [eight]byte
	for i := range d {
		d[eight-1-i] = hexDigits[n>>(4*i)&15]
	}
	return string(d[:])
}

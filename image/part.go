package image

import (
	"math"

	"headstock/api"
	"headstock/label"
)

const wordBytes = 4

func isWord(n int) bool { return n >= 0 && n <= math.MaxUint32 }

// isName tells whether a symbol may be called so: as a label may.
func isName(s string) bool { return label.Right(api.Item{Kind: api.ItemLabel, Name: s}) }

// isPlace tells whether something may stand there in so many words, or at their end.
func isPlace(n, words int) bool { return n >= 0 && n <= words*wordBytes && n%wordBytes == 0 }

// sumOf is a text's, without the line that tells it.
func sumOf(text string) int {
	const modulus = 65521
	a, b := 1, 0
	for i := range len(text) {
		a = (a + int(text[i])) % modulus
		b = (b + a) % modulus
	}
	return b<<16 + a
}

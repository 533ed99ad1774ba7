package code

import "headstock/api"

// An instruction's parts, in the order of partsOf.
const (
	partD = iota
	partA
	partB
	partN
)

func partsOf(in api.Instr) [4]int { return [4]int{in.D, in.A, in.B, in.N} }

// piece is so many bits of a part, from its bit from on, that stand in a word from its bit at on. Without a width it fills nothing.
type piece struct{ part, from, at, width byte }

func (p piece) mask() int { return 1<<p.width - 1 }

// maxPieces is how many pieces a form has at most: two registers, and a number in four.
const maxPieces = 6

// form is what an instruction's number may be, step by step, and the pieces of its parts.
type form struct {
	least, most, step int
	pieces            [maxPieces]piece
}

// laid is a form of pieces. It keeps them in an array, so that a form is a value, for which nothing is made elsewhere.
func laid(least, most, step int, pieces ...piece) form {
	f := form{least: least, most: most, step: step}
	copy(f.pieces[:], pieces)
	return f
}

// formOf is the form of a letter of the chapter's table.
func formOf(letter byte) form {
	d := piece{partD, 0, 7, 5}
	a := piece{partA, 0, 15, 5}
	b := piece{partB, 0, 20, 5}
	switch letter {
	case 'R':
		return laid(0, 0, 1, d, a, b)
	case 'I':
		return laid(-2048, 2047, 1, d, a, piece{partN, 0, 20, 12})
	case 'H':
		return laid(0, 31, 1, d, a, piece{partN, 0, 20, 5})
	case 'S':
		return laid(-2048, 2047, 1, a, b, piece{partN, 0, 7, 5}, piece{partN, 5, 25, 7})
	case 'B':
		return laid(-4096, 4094, 2, a, b, piece{partN, 11, 7, 1}, piece{partN, 1, 8, 4}, piece{partN, 5, 25, 6}, piece{partN, 12, 31, 1})
	case 'U':
		return laid(0, 1<<20-1, 1, d, piece{partN, 0, 12, 20})
	case 'J':
		return laid(-1<<20, 1<<20-2, 2, d, piece{partN, 12, 12, 8}, piece{partN, 11, 20, 1}, piece{partN, 1, 21, 10}, piece{partN, 20, 31, 1})
	case 'F':
		return laid(0, 255, 1, piece{partN, 0, 20, 8})
	case 'C':
		return laid(0, 4095, 1, d, a, piece{partN, 0, 20, 12})
	case 'L':
		return laid(0, 3, 1, d, a, piece{partN, 0, 25, 2})
	case 'A':
		return laid(0, 3, 1, d, a, b, piece{partN, 0, 25, 2})
	}
	// Z has nothing.
	return laid(0, 0, 1)
}

// bounds are the least and the greatest that a part may be: 0 and 0, if the form has it not.
func (f form) bounds(part int) (int, int) {
	if part == partN {
		return f.least, f.most
	}
	for _, p := range f.pieces {
		if int(p.part) == part && p.width > 0 {
			return 0, api.Regs - 1
		}
	}
	return 0, 0
}

// open are all bits of a word that the form's pieces may fill.
func (f form) open() int {
	word := 0
	for _, p := range f.pieces {
		word |= p.mask() << p.at
	}
	return word
}

// lay are the bits that an instruction's parts fill.
func (f form) lay(in api.Instr) int {
	parts := partsOf(in)
	word := 0
	for _, p := range f.pieces {
		word |= parts[p.part] >> p.from & p.mask() << p.at
	}
	return word
}

// lift takes an instruction's parts out of its word again.
func (f form) lift(op, word int) api.Instr {
	var parts [4]int
	for _, p := range f.pieces {
		parts[p.part] |= word >> p.at & p.mask() << p.from
	}
	n := parts[partN]
	// Pieces have no sign: where numbers may be below 0, the upper half of what pieces make stands for those.
	if n > f.most {
		n += 2 * f.least
	}
	return api.Instr{Op: op, D: parts[partD], A: parts[partA], B: parts[partB], N: n}
}

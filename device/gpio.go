package device

// gpio is bits, told as they are, and those that have changed.
type gpio struct{ state }

func (g *gpio) write(reg, n int) {
	switch reg {
	case 0, 2:
		g.keep(reg, n)
	case 3:
		g.change(g.Regs[3] &^ n)
	}
}

func (g *gpio) input(n int) {
	unlike := g.Regs[1] ^ n
	g.change(g.Regs[3] | unlike&g.Regs[2])
	g.keep(1, n)
}

// change says which bits have changed.
func (g *gpio) change(bits int) {
	g.keep(3, bits)
	g.Raised = bits != 0
}

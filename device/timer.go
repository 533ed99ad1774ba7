package device

import "headstock/wrap"

// timer counts what it is handed.
type timer struct{ state }

func (t *timer) read(reg int) int {
	if reg != 3 {
		return t.state.read(reg)
	}
	if t.Raised {
		return 1
	}
	return 0
}

func (t *timer) write(reg, n int) {
	switch reg {
	case 1, 2:
		t.keep(reg, n)
	case 3:
		t.Raised = false
	}
}

func (t *timer) input(int) {
	t.keep(0, wrap.Wrap(t.Regs[0]+1))
	if t.Regs[0] == t.Regs[1] && t.enabled() {
		t.Raised = true
	}
}

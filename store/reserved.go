package store

import (
	"headstock/api"
	"headstock/wrap"
)

// Reserve loads a word and reserves it; Conditional stores, if it is reserved; Change makes of a word what an operator makes of it and a number (0: that number).
func Reserve(m api.Memory, hart, at int) (int, api.Memory, api.Errno) {
	if err := atOnce(m, hart, at); err != api.OK {
		return 0, api.Memory{}, err
	}
	m = copied(m)
	m.Reserved[hart] = at
	return m.Words[at], m, api.OK
}

func Conditional(m api.Memory, hart, at, n int) (bool, api.Memory, api.Errno) {
	if err := atOnce(m, hart, at); err != api.OK {
		return false, api.Memory{}, err
	}
	m = copied(m)
	stores := m.Reserved[hart] == at
	if stores {
		arrive(m, hart, at, wrap.Wrap(n))
	}
	m.Reserved[hart] = none
	return stores, m, api.OK
}

func Change(m api.Memory, hart, at, op, n int) (int, api.Memory, api.Errno) {
	if !isOperator(op) {
		return 0, api.Memory{}, api.ErrArg
	}
	if err := atOnce(m, hart, at); err != api.OK {
		return 0, api.Memory{}, err
	}
	m = copied(m)
	old := m.Words[at]
	arrive(m, hart, at, changed(old, op, n))
	return old, m, api.OK
}

// atOnce is what keeps a hart from what touches a word in memory at once: stores that are pending would come behind it.
func atOnce(m api.Memory, hart, at int) api.Errno {
	switch {
	case !isHart(m, hart) || !isWord(m, at):
		return api.ErrArg
	case len(m.Pending[hart]) > 0:
		return api.ErrBusy
	}
	return api.OK
}

// isOperator tells whether op is 0 or an operator of two, which wrap knows.
func isOperator(op int) bool {
	_, ok := wrap.Two(op, 0, 0)
	return ok || op == 0
}

func changed(old, op, n int) int {
	if op == 0 {
		return wrap.Wrap(n)
	}
	told, _ := wrap.Two(op, old, n)
	return told
}

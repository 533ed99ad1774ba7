package store

import (
	"slices"

	"headstock/api"
	"headstock/wrap"
)

// Load is what a hart loads; Store puts a store behind its others; Drain lets one of these go to memory, Flush all.
func Load(m api.Memory, hart, at int) (int, api.Errno) {
	if !isHart(m, hart) || !isWord(m, at) {
		return 0, api.ErrArg
	}
	for _, e := range slices.Backward(m.Pending[hart]) {
		if e.At == at {
			return e.N, api.OK
		}
	}
	return m.Words[at], api.OK
}

func Store(m api.Memory, hart, at, n int) (api.Memory, api.Errno) {
	if !isHart(m, hart) || !isWord(m, at) {
		return api.Memory{}, api.ErrArg
	}
	if len(m.Pending[hart]) >= api.MaxPending {
		return api.Memory{}, api.ErrFull
	}
	m = copied(m)
	m.Pending[hart] = append(m.Pending[hart], api.Entry{At: at, N: wrap.Wrap(n)})
	return m, api.OK
}

func Drain(m api.Memory, hart, which int) (api.Memory, api.Errno) {
	if !isHart(m, hart) || which < 0 || which >= len(m.Pending[hart]) {
		return api.Memory{}, api.ErrArg
	}
	e := m.Pending[hart][which]
	ahead := func(other api.Entry) bool { return other.At == e.At }
	if slices.ContainsFunc(m.Pending[hart][:which], ahead) {
		return api.Memory{}, api.ErrAhead
	}
	m = copied(m)
	m.Pending[hart] = slices.Delete(m.Pending[hart], which, which+1)
	arrive(m, hart, e.At, e.N)
	return m, api.OK
}

func Flush(m api.Memory, hart int) (api.Memory, api.Errno) {
	if !isHart(m, hart) {
		return api.Memory{}, api.ErrArg
	}
	m = copied(m)
	for _, e := range m.Pending[hart] {
		arrive(m, hart, e.At, e.N)
	}
	m.Pending[hart] = nil
	return m, api.OK
}

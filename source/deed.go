package source

import (
	"slices"

	"headstock/api"
	"headstock/device"
	"headstock/rule"
)

// actor is the last work of a hart, of a source into which it may write.
type actor struct {
	scope
	hart int
}

// next does the next deed, which there is.
func (a actor) next() api.Errno {
	last := len(a.work.Left) - 1
	d := a.work.Left[last]
	if a.waits(d.Stmt) {
		return api.ErrBusy
	}
	a.work.Left = a.work.Left[:last]
	if !attempt(func() { a.do(d) }) {
		a.halt()
	}
	return api.OK
}

// waits tells whether a statement locks a resource that another hart holds.
func (a actor) waits(s api.Stmt) bool {
	if s.Kind != api.StmtLock {
		return false
	}
	which := rule.Resource(a.Program, s.Name)
	if which < 0 || which >= len(a.Owners) {
		return false
	}
	owner := a.Owners[which]
	return owner != nobody && owner != a.hart
}

// do does a deed. It writes nothing until all that the deed asks for is found.
func (a actor) do(d api.Deed) {
	s := d.Stmt
	switch s.Kind {
	case leaves:
		a.Owners[place(d.Leave, len(a.Owners))] = nobody
	case api.StmtSet:
		*a.local(s.Name) = a.arg(s.Args, 0)
	case api.StmtGet:
		a.get(s)
	case api.StmtPut:
		a.put(s)
	case api.StmtStore:
		*a.word(s.Name, a.arg(s.Args, 0)) = a.arg(s.Args, 1)
	case api.StmtLock:
		a.lock(s)
	case api.StmtIf:
		a.choose(s)
	case api.StmtRepeat:
		a.repeat(s)
	case api.StmtHalt:
		a.halt()
	}
}

func (a actor) get(s api.Stmt) {
	to, which := a.local(s.Name), a.device(s.From)
	*to, a.Devices[which] = device.Read(a.Devices[which], s.N)
	a.Trace = append(a.Trace, api.Access{Hart: a.hart, Device: which, Reg: s.N, N: *to})
}

func (a actor) put(s api.Stmt) {
	n, which := a.arg(s.Args, 0), a.device(s.Name)
	a.Devices[which] = device.Write(a.Devices[which], s.N, n)
	a.Trace = append(a.Trace, api.Access{Hart: a.hart, Device: which, Reg: s.N, Write: true, N: n})
}

func (a actor) device(name string) int {
	return place(rule.Device(a.Program, name), len(a.Devices))
}

func (a actor) lock(s api.Stmt) {
	which := place(rule.Resource(a.Program, s.Name), len(a.Owners))
	a.Owners[which] = a.hart
	a.work.Left = ahead(append(a.work.Left, api.Deed{Leave: which}), s.Then)
}

func (a actor) choose(s api.Stmt) {
	l := s.Else
	if a.arg(s.Args, 0) != 0 {
		l = s.Then
	}
	a.work.Left = ahead(a.work.Left, l)
}

func (a actor) repeat(s api.Stmt) {
	if s.N <= 0 {
		return
	}
	again := s
	again.N--
	a.work.Left = ahead(append(a.work.Left, api.Deed{Stmt: again, Leave: -1}), s.Then)
}

// halt keeps of all that is left only what leaves resources.
func (a actor) halt() {
	a.work.Left = slices.DeleteFunc(a.work.Left, func(d api.Deed) bool { return d.Stmt.Kind != leaves })
}

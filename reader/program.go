package reader

import "headstock/api"

func (r *reader) program() api.Program {
	r.must("harts")
	p := api.Program{Harts: r.number()}
	for r.take("device") {
		p.Devices = append(p.Devices, api.Device{Name: r.name(), Kind: r.deviceKind()})
	}
	for r.take("resource") {
		p.Resources = append(p.Resources, api.Resource{Name: r.name(), Words: r.number()})
	}
	for !r.isAtEnd() {
		p.Tasks = append(p.Tasks, r.task())
	}
	return p
}

func (r *reader) deviceKind() int {
	switch {
	case r.take("uart"):
		return api.DeviceUart
	case r.take("timer"):
		return api.DeviceTimer
	}
	r.must("gpio")
	return api.DeviceGpio
}

func (r *reader) task() api.Task {
	x := api.Task{Handler: r.take("handler")}
	if !x.Handler {
		r.must("task")
	}
	x.Name, x.Hart, x.Priority = r.name(), r.number(), r.number()
	if x.Handler {
		x.Line = r.number()
	}
	x.Body = r.block(1)
	return x
}

func (r *reader) block(deep int) []api.Stmt {
	r.must("{")
	r.descend(deep)
	var l []api.Stmt
	for !r.take("}") {
		l = append(l, r.stmt(deep))
	}
	return l
}

// stmt is a statement of a block that stands so deep.
func (r *reader) stmt(deep int) api.Stmt {
	switch {
	case r.take("lock"):
		return api.Stmt{Kind: api.StmtLock, Name: r.name(), Then: r.block(deep + 1)}
	case r.take("if"):
		return r.ifStmt(deep)
	case r.take("repeat"):
		return api.Stmt{Kind: api.StmtRepeat, N: r.number(), Then: r.block(deep + 1)}
	case r.take("halt"):
		r.must(";")
		return api.Stmt{Kind: api.StmtHalt}
	}
	return r.namedStmt(deep)
}

func (r *reader) ifStmt(deep int) api.Stmt {
	r.must("(")
	s := api.Stmt{Kind: api.StmtIf, Args: []api.Expr{r.exprTo(")", deep+1)}, Then: r.block(deep + 1)}
	if r.take("else") {
		s.Else = r.block(deep + 1)
	}
	return s
}

// namedStmt is a statement that a name begins.
func (r *reader) namedStmt(deep int) api.Stmt {
	s := api.Stmt{Name: r.name()}
	switch {
	case r.take("."):
		s.Kind, s.N = api.StmtPut, r.number()
		r.must("=")
	case r.take("["):
		s.Kind, s.Args = api.StmtStore, []api.Expr{r.exprTo("]", deep+1)}
		r.must("=")
	default:
		r.must("=")
		if r.isRegister() {
			return r.getStmt(s.Name)
		}
		s.Kind = api.StmtSet
	}
	s.Args = append(s.Args, r.exprTo(";", deep))
	return s
}

// isRegister tells whether a device's register is read here: no expression has a `.` behind a name.
func (r *reader) isRegister() bool {
	return r.next().Kind == api.TokName && r.left[1].Text == "."
}

// getStmt is a statement of which the name and the `=` are read.
func (r *reader) getStmt(name string) api.Stmt {
	s := api.Stmt{Kind: api.StmtGet, Name: name, From: r.name()}
	r.must(".")
	s.N = r.number()
	r.must(";")
	return s
}

package syntax

import (
	"headstock/api"
	"headstock/token"
)

func isWithin(n, least, most int) bool { return n >= least && n <= most }

func all[T any](l []T, so func(T) bool) bool {
	for _, x := range l {
		if !so(x) {
			return false
		}
	}
	return true
}

func isDevice(d api.Device) bool { return token.Name(d.Name) && kindText(d.Kind) != "" }

func isResource(r api.Resource) bool { return token.Name(r.Name) && isWithin(r.Words, 1, api.MaxRes) }

func isTask(t api.Task) bool {
	line := 0
	if t.Handler {
		line = api.MaxLines - 1
	}
	return token.Name(t.Name) &&
		isWithin(t.Hart, 0, api.MaxHarts-1) &&
		isWithin(t.Priority, 1, api.MaxPriority) &&
		isWithin(t.Line, 0, line) &&
		areStmts(t.Body, api.MaxDeep)
}

// kindText is a device's kind as a program's text tells it; of what is none there is no text.
func kindText(kind int) string {
	switch kind {
	case api.DeviceUart:
		return "uart"
	case api.DeviceTimer:
		return "timer"
	case api.DeviceGpio:
		return "gpio"
	}
	return ""
}

// areStmts tells whether all are right and at most so deep: no further is looked, however deep they are.
func areStmts(l []api.Stmt, deep int) bool {
	return all(l, func(s api.Stmt) bool {
		return deep > 0 && stmtShape(s.Kind).fitsStmt(s) && areExprs(s.Args, api.MaxDeep) && areStmts(s.Then, deep-1) && areStmts(s.Else, deep-1)
	})
}

func areExprs(l []api.Expr, deep int) bool {
	return all(l, func(e api.Expr) bool {
		return deep > 0 && exprShape(e.Kind).fitsExpr(e) && areExprs(e.Args, deep-1)
	})
}

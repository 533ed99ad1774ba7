package syntax_test

import (
	"regexp"
	"slices"
	"strconv"
	"strings"

	"headstock/api"
)

// What the chapter's words say, written out here by themselves: what is right, and what its text is.

const (
	least = -1 << 63
	most  = 1<<63 - 1
)

var (
	nameLook = regexp.MustCompile(`\A[a-zA-Z_][a-zA-Z_0-9]{0,19}\z`)
	taken    = strings.Fields("harts device uart timer gpio resource task handler lock if else repeat halt")
	kinds    = map[int]string{api.DeviceUart: "uart", api.DeviceTimer: "timer", api.DeviceGpio: "gpio"}
	unary    = map[int]string{api.OpNeg: "-", api.OpNot: "!", api.OpInv: "~"}
)

// binary has the operators of two, level by level, with their signs.
var binary = [9]map[int]string{
	1: {api.OpOr: "|"},
	2: {api.OpXor: "^"},
	3: {api.OpAnd: "&"},
	4: {api.OpEq: "==", api.OpNe: "!="},
	5: {api.OpLt: "<", api.OpLess: "<."},
	6: {api.OpShl: "<<", api.OpShr: ">>"},
	7: {api.OpAdd: "+", api.OpSub: "-"},
	8: {api.OpMul: "*", api.OpDiv: "/", api.OpRem: "%"},
}

func levelOf(op int) int {
	return max(0, slices.IndexFunc(binary[:], func(m map[int]string) bool { return m[op] != "" }))
}

func isName(s string) bool { return nameLook.MatchString(s) && !slices.Contains(taken, s) }

func from(n, first, last int) bool { return first <= n && n <= last }

func isRightExpr(e api.Expr) bool { return hasExpr(e) && depthOfExpr(e) <= 30 }

func hasExpr(e api.Expr) bool {
	for _, x := range e.Args {
		if !hasExpr(x) {
			return false
		}
	}
	none := e.Op == 0
	switch n := len(e.Args); e.Kind {
	case api.ExprNum:
		return from(e.N, 0, 4294967295) && none && e.Name == "" && n == 0
	case api.ExprVar:
		return isName(e.Name) && none && e.N == 0 && n == 0
	case api.ExprOne:
		return unary[e.Op] != "" && e.Name == "" && e.N == 0 && n == 1
	case api.ExprTwo:
		return levelOf(e.Op) > 0 && e.Name == "" && e.N == 0 && n == 2
	case api.ExprAt:
		return isName(e.Name) && none && e.N == 0 && n == 1
	}
	return false
}

func depthOfExpr(e api.Expr) int {
	deep := 0
	for _, x := range e.Args {
		deep = max(deep, depthOfExpr(x))
	}
	return deep + 1
}

func isRightStmt(s api.Stmt) bool { return hasStmt(s) && depthOfStmt(s) <= 30 }

func hasStmt(s api.Stmt) bool {
	if slices.ContainsFunc(s.Args, func(e api.Expr) bool { return !isRightExpr(e) }) {
		return false
	}
	if slices.ContainsFunc(slices.Concat(s.Then, s.Else), func(x api.Stmt) bool { return !hasStmt(x) }) {
		return false
	}
	simple, noFrom, noElse := len(s.Then)+len(s.Else) == 0, s.From == "", len(s.Else) == 0
	switch n := len(s.Args); s.Kind {
	case api.StmtSet:
		return isName(s.Name) && n == 1 && s.N == 0 && noFrom && simple
	case api.StmtGet:
		return isName(s.Name) && isName(s.From) && from(s.N, 0, 3) && n == 0 && simple
	case api.StmtPut:
		return isName(s.Name) && from(s.N, 0, 3) && n == 1 && noFrom && simple
	case api.StmtStore:
		return isName(s.Name) && n == 2 && s.N == 0 && noFrom && simple
	case api.StmtLock:
		return isName(s.Name) && n == 0 && s.N == 0 && noFrom && noElse
	case api.StmtIf:
		return n == 1 && s.Name == "" && s.N == 0 && noFrom
	case api.StmtRepeat:
		return from(s.N, 0, 20) && n == 0 && s.Name == "" && noFrom && noElse
	case api.StmtHalt:
		return n == 0 && s.N == 0 && s.Name == "" && noFrom && simple
	}
	return false
}

func depthOfStmt(s api.Stmt) int {
	deep := 0
	for _, x := range slices.Concat(s.Then, s.Else) {
		deep = max(deep, depthOfStmt(x))
	}
	return deep + 1
}

func isRight(p api.Program) bool {
	if !from(p.Harts, 1, 4) || len(p.Devices) > 8 || len(p.Resources) > 8 || len(p.Tasks) > 16 {
		return false
	}
	for _, d := range p.Devices {
		if !isName(d.Name) || kinds[d.Kind] == "" {
			return false
		}
	}
	for _, r := range p.Resources {
		if !isName(r.Name) || !from(r.Words, 1, 8) {
			return false
		}
	}
	for _, t := range p.Tasks {
		if !isName(t.Name) || !from(t.Hart, 0, 3) || !from(t.Priority, 1, 7) || !from(t.Line, 0, 7) || !t.Handler && t.Line != 0 {
			return false
		}
		if slices.ContainsFunc(t.Body, func(s api.Stmt) bool { return !isRightStmt(s) }) {
			return false
		}
	}
	return true
}

// textOf is a right expression's text.
func textOf(e api.Expr) string {
	switch e.Kind {
	case api.ExprNum:
		return strconv.Itoa(e.N)
	case api.ExprVar:
		return e.Name
	case api.ExprAt:
		return e.Name + "[" + textOf(e.Args[0]) + "]"
	case api.ExprOne:
		text := textOf(e.Args[0])
		if e.Args[0].Kind == api.ExprTwo {
			text = "(" + text + ")"
		}
		return unary[e.Op] + text
	}
	l := []string{textOf(e.Args[0]), textOf(e.Args[1])}
	level := levelOf(e.Op)
	for i, x := range e.Args {
		if x.Kind != api.ExprTwo {
			continue
		}
		if inner := levelOf(x.Op); inner < level || i == 1 && inner == level {
			l[i] = "(" + l[i] + ")"
		}
	}
	return l[0] + " " + binary[level][e.Op] + " " + l[1]
}

// linesOf are a right statement's lines.
func linesOf(s api.Stmt) []string {
	n := strconv.Itoa(s.N)
	switch s.Kind {
	case api.StmtSet:
		return []string{s.Name + " = " + textOf(s.Args[0]) + ";"}
	case api.StmtGet:
		return []string{s.Name + " = " + s.From + "." + n + ";"}
	case api.StmtPut:
		return []string{s.Name + "." + n + " = " + textOf(s.Args[0]) + ";"}
	case api.StmtStore:
		return []string{s.Name + "[" + textOf(s.Args[0]) + "] = " + textOf(s.Args[1]) + ";"}
	case api.StmtLock:
		return blockOf("lock "+s.Name+" {", s.Then, "}")
	case api.StmtRepeat:
		return blockOf("repeat "+n+" {", s.Then, "}")
	case api.StmtIf:
		l := blockOf("if ("+textOf(s.Args[0])+") {", s.Then, "}")
		if len(s.Else) > 0 {
			l = append(l[:len(l)-1], blockOf("} else {", s.Else, "}")...)
		}
		return l
	}
	return []string{"halt;"}
}

// blockOf are the lines of statements, with a tab more, between two others.
func blockOf(first string, l []api.Stmt, last string) []string {
	lines := []string{first}
	for _, s := range l {
		for _, line := range linesOf(s) {
			lines = append(lines, "\t"+line)
		}
	}
	return append(lines, last)
}

// wholeOf is a right program's text.
func wholeOf(p api.Program) string {
	lines := []string{"harts " + strconv.Itoa(p.Harts)}
	for _, d := range p.Devices {
		lines = append(lines, "device "+d.Name+" "+kinds[d.Kind])
	}
	for _, r := range p.Resources {
		lines = append(lines, "resource "+r.Name+" "+strconv.Itoa(r.Words))
	}
	for _, t := range p.Tasks {
		head := t.Name + " " + strconv.Itoa(t.Hart) + " " + strconv.Itoa(t.Priority)
		if t.Handler {
			head = "handler " + head + " " + strconv.Itoa(t.Line)
		} else {
			head = "task " + head
		}
		lines = append(lines, blockOf(head+" {", t.Body, "}")...)
	}
	return strings.Join(lines, "\n") + "\n"
}

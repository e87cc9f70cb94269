package print

import (
	"strconv"
	"strings"
	"timebound/api"
)

// writer writes the text of a program that is printable. It stops where a limit is exceeded: what is deeper has not been looked at, and blocks that are in many others can stand for a text of any size.
type writer struct {
	text    strings.Builder
	stopped bool
}

// line adds a line of words.
func (w *writer) line(words ...string) {
	if w.stopped {
		return
	}
	w.text.WriteString(strings.Join(words, " "))
	w.text.WriteByte('\n')
	w.stopped = w.text.Len() > api.MaxSource
}

func (w *writer) program(p api.Program) {
	for _, r := range p.Resources {
		w.line("resource", r)
	}
	for _, s := range p.Shared {
		w.line("shared", s.Array.Name, strconv.Itoa(s.Array.Size), s.Resource)
	}
	for _, t := range p.Tasks {
		w.task(t)
	}
}

func (w *writer) task(t api.Task) {
	w.line("task", t.Name, "period", strconv.Itoa(t.Period), "deadline", strconv.Itoa(t.Deadline), "priority", strconv.Itoa(t.Priority), "jitter", strconv.Itoa(t.Jitter))
	for _, i := range t.Inputs {
		w.line("input", i.Name, strconv.Itoa(i.Lo), strconv.Itoa(i.Hi))
	}
	for _, v := range t.Vars {
		w.line("var", v)
	}
	for _, a := range t.Arrays {
		w.line("array", a.Name, strconv.Itoa(a.Size))
	}
	for _, m := range t.Modes {
		w.line("mode", m.Name, m.Input, strconv.Itoa(m.Lo), strconv.Itoa(m.Hi))
	}
	for _, c := range t.Claims {
		w.line("never", strconv.Itoa(c.A), strconv.Itoa(c.B))
	}
	w.line("body")
	w.stmts(t.Body, 1)
	w.line("end")
}

// stmts adds statements that are within so many blocks.
func (w *writer) stmts(list []api.Stmt, within int) {
	for _, s := range list {
		if within > api.MaxDepth || deep(expressions(s)) {
			w.stopped = true
		}
		if w.stopped {
			return
		}
		w.stmt(s, within)
	}
}

// stmt adds a statement that is within so many blocks.
func (w *writer) stmt(s api.Stmt, within int) {
	space := strings.Repeat("  ", within)
	switch s.Kind {
	case api.StmtSet:
		w.line(space+s.Name, "=", expression(s.Value[0]))
		return
	case api.StmtStore:
		w.line(space+indexed(s.Name, s.Index[0]), "=", expression(s.Value[0]))
		return
	case api.StmtIf:
		w.line(space+"if", expression(s.Value[0]), "label", strconv.Itoa(s.Label), "{")
	case api.StmtWhile:
		w.line(space+"while", expression(s.Value[0]), "max", strconv.Itoa(s.Max), "label", strconv.Itoa(s.Label), "{")
	case api.StmtLock:
		w.line(space+"lock", s.Name, "{")
	}
	w.stmts(s.Then, within+1)
	if len(s.Else) > 0 {
		w.line(space + "} else {")
		w.stmts(s.Else, within+1)
	}
	w.line(space + "}")
}

// expression returns the text of an expression that is printable and not too deep.
func expression(e api.Expr) string {
	switch e.Kind {
	case api.ExprNum:
		if e.Num < 0 {
			return "(" + strconv.Itoa(e.Num) + ")"
		}
		return strconv.Itoa(e.Num)
	case api.ExprName:
		// The name is copied: a result shares no memory with an argument.
		return strings.Clone(e.Name)
	case api.ExprIndex:
		return indexed(e.Name, e.Args[0])
	}
	return "(" + expression(e.Args[0]) + " " + sign(e.Op) + " " + expression(e.Args[1]) + ")"
}

// indexed returns the text of an element of an array.
func indexed(name string, index api.Expr) string { return name + "[" + expression(index) + "]" }

// sign returns the sign of an operator, an empty text if there is none.
func sign(op int) string {
	signs := [...]string{
		api.Add: "+", api.Sub: "-", api.Mul: "*", api.Div: "/", api.Rem: "%",
		api.And: "&", api.Or: "|", api.Xor: "^", api.Shl: "<<", api.Shr: ">>",
		api.Lt: "<", api.Le: "<=", api.Eq: "==", api.Ne: "!=",
	}
	if op < 0 || op >= len(signs) {
		return ""
	}
	return signs[op]
}

package print

import (
	"timebound/api"
	"timebound/parse"
	"timebound/token"
)

// greatest is the greatest number that a text can have.
const greatest = 1<<31 - 1

// looked is the depth down to which a program is looked at.
const looked = 20

// printable reports whether a program is printable, as far down as it is looked at.
func printable(p api.Program) bool {
	return every(named, p.Resources) && every(printableShared, p.Shared) && every(printableHead, p.Tasks) &&
		printableStmts(below([][]api.Task{p.Tasks}, bodies))
}

// printableStmts reports whether all statements of some lists are printable. Expressions have depths of their own.
func printableStmts(level [][]api.Stmt) bool {
	for range looked {
		if !every(shapedStmt, level...) || !printableExprs(below(level, expressions)) {
			return false
		}
		level = below(level, blocks)
	}
	return true
}

// printableExprs reports whether all expressions of some lists are printable.
func printableExprs(level [][]api.Expr) bool {
	for range looked {
		if !every(shapedExpr, level...) {
			return false
		}
		level = below(level, arguments)
	}
	return true
}

func printableShared(s api.Shared) bool { return printableArray(s.Array) && named(s.Resource) }

func printableArray(a api.Array) bool { return named(a.Name) && unsigned(a.Size) }

// printableHead reports whether a task, but for its body, is printable.
func printableHead(t api.Task) bool {
	return named(t.Name) && unsigned(t.Period, t.Deadline, t.Priority, t.Jitter) &&
		every(func(i api.Input) bool { return named(i.Name) && signed(i.Lo, i.Hi) }, t.Inputs) &&
		every(named, t.Vars) &&
		every(printableArray, t.Arrays) &&
		every(func(m api.Mode) bool { return named(m.Name) && named(m.Input) && signed(m.Lo, m.Hi) }, t.Modes) &&
		every(func(c api.Claim) bool { return unsigned(c.A, c.B) }, t.Claims)
}

// shape says what a kind of statements has: fields that it does not have are empty or 0.
type shape struct {
	name, max, label, then, other bool
	index, value                  int // how many
}

// shapeOf returns the shape of a kind of statements, and whether there is one.
func shapeOf(kind int) (shape, bool) {
	switch kind {
	case api.StmtSet:
		return shape{name: true, value: 1}, true
	case api.StmtStore:
		return shape{name: true, index: 1, value: 1}, true
	case api.StmtIf:
		return shape{value: 1, label: true, then: true, other: true}, true
	case api.StmtWhile:
		return shape{value: 1, max: true, label: true, then: true}, true
	case api.StmtLock:
		return shape{name: true, then: true}, true
	}
	return shape{}, false
}

// shapedStmt reports whether a statement has the shape of its kind. What is in it is not looked at.
func shapedStmt(s api.Stmt) bool {
	has, known := shapeOf(s.Kind)
	return known &&
		(has.name && named(s.Name) || !has.name && s.Name == "") &&
		len(s.Index) == has.index && len(s.Value) == has.value &&
		unsigned(s.Max, s.Label) && (has.max || s.Max == 0) && (has.label || s.Label == 0) &&
		(has.then || len(s.Then) == 0) && (has.other || len(s.Else) == 0)
}

// shapedExpr reports whether an expression has the shape of its kind. Its arguments are not looked at.
func shapedExpr(e api.Expr) bool {
	switch e.Kind {
	case api.ExprNum:
		return signed(e.Num) && e.Name == "" && e.Op == 0 && len(e.Args) == 0
	case api.ExprName:
		return named(e.Name) && e.Num == 0 && e.Op == 0 && len(e.Args) == 0
	case api.ExprIndex:
		return named(e.Name) && e.Num == 0 && e.Op == 0 && len(e.Args) == 1
	case api.ExprBin:
		return sign(e.Op) != "" && e.Num == 0 && e.Name == "" && len(e.Args) == 2
	}
	return false
}

// named reports whether a text is a name and no keyword. The parser knows the keywords: none of them is an expression, as other names are.
func named(s string) bool {
	if !token.Name(s) {
		return false
	}
	_, _, e := parse.Expr([]api.Token{{Kind: api.TokenName, Text: s}})
	return e == api.OK
}

// signed reports whether numbers can be written, some of them with a minus.
func signed(numbers ...int) bool {
	return every(func(n int) bool { return -greatest <= n && n <= greatest }, numbers)
}

// unsigned reports whether numbers can be written without a sign.
func unsigned(numbers ...int) bool {
	return every(func(n int) bool { return 0 <= n && n <= greatest }, numbers)
}

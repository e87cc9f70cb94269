package eval

import (
	"timebound/api"
	"timebound/word"
)

// looked is the depth down to which an expression is looked at, so that one that is in itself has a value, too.
const looked = 20

// Expr returns the value of an expression: 0 where there is none.
func Expr(e api.Expr, vars map[string]int, arrays map[string][]int) int {
	return scope{vars, arrays}.value(e, 1)
}

// scope is what names stand for.
type scope struct {
	vars   map[string]int
	arrays map[string][]int
}

// value is Expr for an expression that is at a depth of another one.
func (s scope) value(e api.Expr, depth int) int {
	switch {
	case depth > looked:
		return 0
	case e.Kind == api.ExprNum:
		return word.Wrap(e.Num)
	case e.Kind == api.ExprName:
		return s.vars[e.Name]
	case e.Kind == api.ExprIndex && len(e.Args) >= 1:
		return element(s.arrays[e.Name], s.value(e.Args[0], depth+1))
	case e.Kind == api.ExprBin && len(e.Args) >= 2:
		return operation(e.Op, s.value(e.Args[0], depth+1), s.value(e.Args[1], depth+1))
	}
	return 0
}

// element returns an element of an array, 0 if the array has none.
func element(array []int, index int) int {
	if len(array) == 0 {
		return 0
	}
	return array[place(index, len(array))]
}

// place returns an index modulo a size, from 0 on for negative ones, too.
func place(index, size int) int { return (index%size + size) % size }

// operation returns the result of an operator, 0 for an unknown one.
func operation(op, a, b int) int {
	n, e := word.Do(op, a, b)
	if e != api.OK {
		return 0
	}
	return n
}

package check

import (
	"iter"
	"timebound/api"
)

// looked is the depth down to which statements and expressions are looked at.
const looked = 20

// most is how many statements are gone through at most. No promise holds for as many (their bytes are too many); but lists that are in themselves can stand for far more, so that without an end it could take forever.
const most = 1 << 24

// statements goes through statements, each one before those of its blocks, and Then before Else.
func statements(l []api.Stmt) iter.Seq[api.Stmt] {
	return func(yield func(api.Stmt) bool) {
		left := most
		var pass func(l []api.Stmt, depth int) bool
		pass = func(l []api.Stmt, depth int) bool {
			if depth > looked {
				return true
			}
			for _, s := range l {
				if left == 0 || !yield(s) {
					return false
				}
				left--
				if !pass(s.Then, depth+1) || !pass(s.Else, depth+1) {
					return false
				}
			}
			return true
		}
		pass(l, 1)
	}
}

// expressions goes through the expressions of a statement, each one before its arguments. They must be printable, for others need have no end.
func expressions(s api.Stmt) iter.Seq[api.Expr] {
	return func(yield func(api.Expr) bool) {
		var pass func(l []api.Expr) bool
		pass = func(l []api.Expr) bool {
			for _, e := range l {
				if !yield(e) || !pass(e.Args) {
					return false
				}
			}
			return true
		}
		if pass(s.Index) {
			pass(s.Value)
		}
	}
}

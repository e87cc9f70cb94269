package print

import "timebound/api"

// place is where a list is: two lists with the same place are the same one.
type place[T any] struct {
	first *T
	size  int
}

// below returns the lists that the items of some lists have, but for empty ones, and each of them once: a list can be in many items, and even in its own, so that to follow each way down to it could take forever.
func below[T, U any](lists [][]T, within func(T) [][]U) [][]U {
	var found [][]U
	known := map[place[U]]bool{}
	for _, list := range lists {
		for _, item := range list {
			for _, inner := range within(item) {
				if len(inner) == 0 {
					continue
				}
				at := place[U]{&inner[0], len(inner)}
				if !known[at] {
					known[at] = true
					found = append(found, inner)
				}
			}
		}
	}
	return found
}

// every reports whether all items of some lists are right.
func every[T any](right func(T) bool, lists ...[]T) bool {
	for _, list := range lists {
		for _, item := range list {
			if !right(item) {
				return false
			}
		}
	}
	return true
}

// deep reports whether one of these expressions is deeper than MaxDepth.
func deep(level [][]api.Expr) bool {
	for range api.MaxDepth {
		level = below(level, arguments)
	}
	return len(level) > 0
}

func arguments(e api.Expr) [][]api.Expr { return [][]api.Expr{e.Args} }

func expressions(s api.Stmt) [][]api.Expr { return [][]api.Expr{s.Index, s.Value} }

func blocks(s api.Stmt) [][]api.Stmt { return [][]api.Stmt{s.Then, s.Else} }

func bodies(t api.Task) [][]api.Stmt { return [][]api.Stmt{t.Body} }

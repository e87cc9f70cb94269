package check

import "timebound/api"

// heaviest is the greatest weight.
const heaviest = 1 << 40

// Weight returns how much statements can do.
func Weight(l []api.Stmt) int {
	exprs := newScale[api.Expr]()
	exprs.one = func(e api.Expr, depth int) int { return 1 + exprs.weigh(e.Args, depth+1) }
	stmts := newScale[api.Stmt]()
	stmts.one = func(s api.Stmt, depth int) int {
		value, then := exprs.weigh(s.Value, 1), stmts.weigh(s.Then, depth+1)
		switch s.Kind {
		case api.StmtSet, api.StmtStore:
			return 1 + exprs.weigh(s.Index, 1) + value
		case api.StmtIf:
			return 2 + value + then + stmts.weigh(s.Else, depth+1)
		case api.StmtWhile:
			times := min(max(s.Max, 0), api.MaxMax+1)
			return 2 + (times+1)*(2+value+then)
		case api.StmtLock:
			return 2 + then
		}
		return 0
	}
	return stmts.weigh(l, 1)
}

// place is a list at a depth. Lists that begin at the same item and have the same size are the same one.
type place[T any] struct {
	first       *T
	size, depth int
}

// scale weighs lists. It keeps what it has found: a list can be in many others, and even in itself, so that to weigh it each time could take forever.
type scale[T any] struct {
	one   func(item T, depth int) int
	found map[place[T]]int
}

func newScale[T any]() *scale[T] { return &scale[T]{found: map[place[T]]int{}} }

// weigh returns the weight of a list at a depth.
func (s *scale[T]) weigh(l []T, depth int) int {
	if len(l) == 0 {
		return 0
	}
	if depth > looked {
		return heaviest
	}
	at := place[T]{&l[0], len(l), depth}
	if weight, known := s.found[at]; known {
		return weight
	}
	weight := 0
	for _, item := range l {
		weight = min(weight+s.one(item, depth), heaviest)
	}
	s.found[at] = weight
	return weight
}

package fold

import (
	"maps"
	"timebound/api"
	"timebound/word"
)

// knowledge is what is known of variables at a place of a block: the words of some, and of which variables others are copies. These have no known word, and are no copies themselves.
type knowledge struct {
	words  map[int]int
	copies map[int]int
}

// source returns what a variable is a copy of, or itself.
func (k knowledge) source(v int) int {
	if of, copied := k.copies[v]; copied {
		return of
	}
	return v
}

// direct returns an operation with the sources of its operands. Other fields are no variables, even if they look like one.
func (k knowledge) direct(o api.Op) api.Op {
	switch o.Kind {
	case api.OpBin, api.OpStore:
		o.A, o.B = k.source(o.A), k.source(o.B)
	case api.OpCopy, api.OpLoad:
		o.A = k.source(o.A)
	}
	return o
}

// constant returns what puts the word into Dst, if it is known what an operation computes, and otherwise the operation.
func (k knowledge) constant(o api.Op) api.Op {
	if n, known := k.result(o); known {
		return api.Op{Kind: api.OpConst, Dst: o.Dst, Imm: n}
	}
	return o
}

// result returns what an operation computes from known words. What arrays have is not known.
func (k knowledge) result(o api.Op) (n int, known bool) {
	a, known := k.words[o.A]
	switch o.Kind {
	case api.OpCopy:
		return a, known
	case api.OpBin:
		b, both := k.words[o.B]
		n, _ = word.Do(o.Imm, a, b)
		return n, known && both
	}
	return 0, false
}

// learn takes note of what an operation does: what was known of its Dst, and which variables were copies of it, holds no longer.
func (k knowledge) learn(o api.Op) {
	switch o.Kind {
	case api.OpStore, api.OpLock, api.OpUnlock:
		return
	}
	delete(k.words, o.Dst)
	maps.DeleteFunc(k.copies, func(v, of int) bool { return v == o.Dst || of == o.Dst })
	switch {
	case o.Kind == api.OpConst:
		k.words[o.Dst] = o.Imm
	case o.Kind == api.OpCopy && o.A != o.Dst:
		k.copies[o.Dst] = o.A
	}
}

// branch returns what a block with two successors branches by, and its successors: one alone, and no condition, if it is known which one is next.
func (k knowledge) branch(cond int, next []int) (int, []int) {
	cond = k.source(cond)
	n, known := k.words[cond]
	switch {
	case !known:
		return cond, next
	case n != 0:
		return 0, next[:1]
	}
	return 0, next[1:]
}

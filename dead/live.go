package dead

import (
	"slices"
	"timebound/api"
	"timebound/graph"
)

// Live returns which variables are needed behind each block.
func Live(g api.Graph) ([][]bool, api.Errno) {
	if e := graph.Check(g); e != api.OK {
		return nil, e
	}
	live := make([][]bool, len(g.Blocks))
	for b, end := range ends(g.Blocks, first(g.Keep)) {
		live[b] = make([]bool, g.Vars)
		for v := range live[b] {
			live[b][v] = end.has(v)
		}
	}
	return live, api.OK
}

// set is a set of variables, one bit for each of them: a valid graph has no more than MaxSlots, 64.
type set uint64

// one returns the set of one variable.
func one(v int) set { return 1 << v }

// first returns the set of the first n variables.
func first(n int) set { return 1<<n - 1 }

// has reports whether a variable is in a set.
func (s set) has(v int) bool { return s&one(v) != 0 }

// ends returns which variables are needed at the end of each block, if some are kept.
func ends(blocks []api.Block, keep set) []set {
	begin := begins(blocks, keep)
	end := make([]set, len(blocks))
	for b, block := range blocks {
		end[b] = behind(block, begin, keep)
	}
	return end
}

// begins returns which variables are needed at the beginning of each block. It starts with none, and goes through all blocks again until there are no more.
func begins(blocks []api.Block, keep set) []set {
	begin := make([]set, len(blocks))
again:
	for {
		old := slices.Clone(begin)
		for b, block := range slices.Backward(blocks) {
			begin[b] = behind(block, begin, keep)
			for _, o := range slices.Backward(block.Ops) {
				begin[b] = before(o, begin[b])
			}
		}
		for b := range begin {
			if begin[b] != old[b] {
				continue again
			}
		}
		return begin
	}
}

// behind returns what is needed at the end of a block, if that at the beginning of each block is known.
func behind(b api.Block, begin []set, keep set) set {
	switch len(b.Next) {
	case 0:
		return keep
	case 1:
		return begin[b.Next[0]]
	}
	return begin[b.Next[0]] | begin[b.Next[1]] | one(b.Cond)
}

// before returns what is needed before an operation, if that behind it is known. An operation with its Dst as an operand needs it.
func before(o api.Op, behind set) set {
	switch o.Kind {
	case api.OpConst:
		return behind &^ one(o.Dst)
	case api.OpCopy, api.OpLoad:
		return behind&^one(o.Dst) | one(o.A)
	case api.OpBin:
		return behind&^one(o.Dst) | one(o.A) | one(o.B)
	case api.OpStore:
		return behind | one(o.A) | one(o.B)
	}
	return behind
}

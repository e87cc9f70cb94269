package graph

import (
	"slices"
	"timebound/api"
	"timebound/word"
)

const (
	// mostPoints is how many points a graph can have: three for each label, and three that belong to none.
	mostPoints = 3*api.MaxLabels + 3
	// mostRounds is the greatest Max of a head.
	mostRounds = 2 * api.MaxWeight
)

// Check returns the error of a graph.
func Check(g api.Graph) api.Errno {
	switch {
	case many(g.Blocks), g.Vars > api.MaxSlots, len(g.Arrays) > api.MaxArrays+api.MaxShared, len(g.Points) > mostPoints:
		return api.ErrLimit
	case rightData(g) && rightBlocks(g) && rightPoints(g) && rightHeads(g):
		return api.OK
	}
	return api.ErrForm
}

// many reports whether there are more blocks, or operations in them, than a graph can have.
func many(blocks []api.Block) bool {
	if len(blocks) > api.MaxBlocks {
		return true
	}
	operations := 0
	for _, b := range blocks {
		operations += len(b.Ops)
	}
	return operations > api.MaxOps
}

// rightData reports whether variables, inputs and arrays are right.
func rightData(g api.Graph) bool {
	return below(g.Keep, g.Vars+1) && len(g.Inputs) <= g.Keep && below(g.Shared, len(g.Arrays)+1) &&
		every(g.Inputs, func(in api.Input) bool { return isWord(in.Lo) && isWord(in.Hi) && in.Lo <= in.Hi }) &&
		every(g.Arrays, func(a api.Array) bool { return 1 <= a.Size && a.Size <= api.MaxSize && a.Size&(a.Size-1) == 0 })
}

// rightBlocks reports whether all blocks are right, and exactly one of them is the end.
func rightBlocks(g api.Graph) bool {
	ends := 0
	for _, b := range g.Blocks {
		if len(b.Next) == 0 {
			ends++
		}
	}
	return ends == 1 && every(g.Blocks, func(b api.Block) bool { return rightOps(g, b.Ops) && rightNext(g, b) })
}

// rightNext reports whether the successors of a block, and what it branches by, are right. There is no way back to block 0.
func rightNext(g api.Graph, b api.Block) bool {
	if !every(b.Next, func(n int) bool { return n != 0 && below(n, len(g.Blocks)) }) {
		return false
	}
	if len(b.Next) == 2 {
		return b.Next[0] != b.Next[1] && below(b.Cond, g.Vars)
	}
	return len(b.Next) < 2 && b.Cond == 0
}

// rightOps reports whether the operations of a block are right. A resource is held by whole blocks.
func rightOps(g api.Graph, ops []api.Op) bool {
	for i, o := range ops {
		if !rightOp(g, o) || o.Kind == api.OpLock && i != 0 || o.Kind == api.OpUnlock && i != len(ops)-1 {
			return false
		}
	}
	return true
}

// rightOp reports whether all that an operation names is there, and whether its other fields are 0.
func rightOp(g api.Graph, o api.Op) bool {
	vars := func(l ...int) bool { return every(l, func(n int) bool { return below(n, g.Vars) }) }
	none := func(l ...int) bool { return every(l, func(n int) bool { return n == 0 }) }
	switch o.Kind {
	case api.OpConst:
		return vars(o.Dst) && isWord(o.Imm) && none(o.A, o.B)
	case api.OpCopy:
		return vars(o.Dst, o.A) && none(o.B, o.Imm)
	case api.OpBin:
		return vars(o.Dst, o.A, o.B) && word.Known(o.Imm)
	case api.OpLoad:
		return vars(o.Dst, o.A) && below(o.Imm, len(g.Arrays)) && none(o.B)
	case api.OpStore:
		return vars(o.A, o.B) && below(o.Imm, len(g.Arrays)) && none(o.Dst)
	case api.OpLock, api.OpUnlock:
		return below(o.Imm, api.MaxResources) && none(o.Dst, o.A, o.B)
	}
	return false
}

// rightPoints reports whether the points have blocks, each list none twice.
func rightPoints(g api.Graph) bool {
	return every(g.Points, func(list []int) bool {
		var seen [api.MaxBlocks]bool
		return every(list, func(b int) bool {
			if !below(b, len(g.Blocks)) || seen[b] {
				return false
			}
			seen[b] = true
			return true
		})
	})
}

// rightHeads reports whether the heads are blocks, ascending, and have numbers of rounds.
func rightHeads(g api.Graph) bool {
	last := -1
	return every(g.Heads, func(h api.Head) bool {
		right := last < h.Block && below(h.Block, len(g.Blocks)) && below(h.Max, mostRounds+1)
		last = h.Block
		return right
	})
}

// every reports whether all elements of a list are right.
func every[T any](list []T, right func(T) bool) bool {
	return !slices.ContainsFunc(list, func(x T) bool { return !right(x) })
}

// below reports whether n is from 0 to most - 1.
func below(n, most int) bool { return 0 <= n && n < most }

// isWord reports whether a number is a word.
func isWord(n int) bool { return word.Wrap(n) == n }

package merge

import (
	"slices"
	"timebound/api"
	"timebound/graph"
)

// pair returns the least block that takes another one, and that one. It reports whether there is one.
func pair(g api.Graph) (a, b int, found bool) {
	before := graph.Before(g)
	for a, block := range g.Blocks {
		if len(block.Next) != 1 {
			continue
		}
		if b := block.Next[0]; len(before[b]) == 1 && !apart(g, a, b) {
			return a, b, true
		}
	}
	return 0, 0, false
}

// apart reports whether two blocks stay two although b always follows a. Block 0 follows none in a valid graph.
func apart(g api.Graph, a, b int) bool {
	head := func(h api.Head) bool { return h.Block == b }
	both := func(list []int) bool { return slices.Contains(list, a) && slices.Contains(list, b) }
	return a == b || unlocks(g.Blocks[a].Ops) || locks(g.Blocks[b].Ops) ||
		slices.ContainsFunc(g.Heads, head) || slices.ContainsFunc(g.Points, both)
}

// unlocks reports whether the last operation is an unlock.
func unlocks(ops []api.Op) bool {
	return len(ops) > 0 && ops[len(ops)-1].Kind == api.OpUnlock
}

// locks reports whether the first operation is a lock.
func locks(ops []api.Op) bool {
	return len(ops) > 0 && ops[0].Kind == api.OpLock
}

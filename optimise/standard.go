package optimise

import (
	"slices"
	"timebound/api"
	"timebound/graph"
)

// fewestRounds is how many rounds a loop must be able to have for two of them to be worth one way back.
const fewestRounds = 2

// Standard returns the usual passes for a graph.
func Standard(g api.Graph) ([]api.Pass, api.Errno) {
	l := tidy()
	left, _, e := Run(g, l)
	if e != api.OK {
		return nil, e
	}
	loops, e := graph.Loops(left)
	if e != api.OK {
		return nil, e
	}
	if i := slices.IndexFunc(loops, worth(loops)); i >= 0 && roomy(left) {
		l = append(l, api.Pass{Kind: api.PassUnroll, Arg: loops[i].Header})
		l = append(l, tidy()...)
	}
	return l, api.OK
}

// Cost returns how many operations and blocks a graph has.
func Cost(g api.Graph) int {
	cost := len(g.Blocks)
	for _, b := range g.Blocks {
		cost += len(b.Ops)
	}
	return cost
}

// tidy returns the passes that leave out what is not needed. Each one makes room for the next one.
func tidy() []api.Pass {
	return []api.Pass{{Kind: api.PassFold}, {Kind: api.PassDead}, {Kind: api.PassMerge}}
}

// roomy reports whether a graph could even have all of its blocks twice.
func roomy(g api.Graph) bool {
	blocks := len(g.Blocks)
	return blocks <= api.MaxBlocks/2 && Cost(g)-blocks <= api.MaxOps/2
}

// worth returns a function that reports whether a loop is worth being unrolled: it has rounds, and no other loop in it.
func worth(loops []api.Loop) func(api.Loop) bool {
	return func(l api.Loop) bool {
		within := func(other api.Loop) bool {
			return other.Header != l.Header && slices.Contains(l.Nodes, other.Header)
		}
		return l.Max >= fewestRounds && !slices.ContainsFunc(loops, within)
	}
}

package graph

import (
	"cmp"
	"slices"
	"timebound/api"
)

// edges are those by which each block is entered from blocks that are reached from block 0: they say where these come from.
type edges struct {
	all   [][]int
	back  [][]int // from blocks that the block dominates
	ahead [][]int // all others
}

// Loops returns the loops of a graph, each one behind those around it.
func Loops(g api.Graph) ([]api.Loop, api.Errno) {
	if e := Check(g); e != api.OK {
		return nil, e
	}
	in := entered(g)
	var loops []api.Loop
	for b, back := range in.back {
		if in.repeats(b) {
			return nil, api.ErrForm
		}
		if len(back) == 0 {
			continue
		}
		head := slices.IndexFunc(g.Heads, func(h api.Head) bool { return h.Block == b })
		if len(in.ahead[b]) != 1 || head < 0 {
			return nil, api.ErrForm
		}
		// The header dominates all of its loop, so that what leads to it by no back edge is outside.
		loops = append(loops, api.Loop{Header: b, Before: in.ahead[b][0], Nodes: in.loop(b), Max: g.Heads[head].Max})
	}
	nest(loops)
	return loops, api.OK
}

// entered returns the edges by which the blocks of a graph are entered.
func entered(g api.Graph) edges {
	live, next := Reached(g), successors(g)
	in := edges{Before(g), make([][]int, len(g.Blocks)), make([][]int, len(g.Blocks))}
	for b := range in.all {
		in.all[b] = slices.DeleteFunc(in.all[b], func(from int) bool { return !live[from] })
		// What is reached, but not without b, is dominated by it.
		other := reach(next, []int{0}, b)
		for _, from := range in.all[b] {
			if other[from] {
				in.ahead[b] = append(in.ahead[b], from)
			} else {
				in.back[b] = append(in.back[b], from)
			}
		}
	}
	return in
}

// repeats reports whether a block lies on a cycle without back edges.
func (in edges) repeats(b int) bool { return reach(in.ahead, in.ahead[b], -1)[b] }

// loop returns the blocks of the loop of a header, ascending.
func (in edges) loop(header int) []int {
	var nodes []int
	for b, within := range reach(in.all, in.back[header], header) {
		if within || b == header {
			nodes = append(nodes, b)
		}
	}
	return nodes
}

// nest brings loops into their order, and finds for each one the loop around it.
func nest(loops []api.Loop) {
	slices.SortFunc(loops, func(a, b api.Loop) int {
		return cmp.Or(cmp.Compare(len(b.Nodes), len(a.Nodes)), cmp.Compare(a.Header, b.Header))
	})
	for i := range loops {
		loops[i].Around = -1
		for around, l := range loops[:i] {
			if slices.Contains(l.Nodes, loops[i].Header) {
				loops[i].Around = around
			}
		}
	}
}

package unroll

import (
	"fmt"
	"math"
	"slices"
	"strings"
	"testing"
	"timebound/api"
	"timebound/graph"
	"timebound/trace"
)

func to(l ...int) []int { return l }

func ops(l ...api.Op) []api.Op { return l }

func constant(dst, n int) api.Op { return api.Op{Kind: api.OpConst, Dst: dst, Imm: n} }

// mark is a block with one operation, by which it is known again. It branches by the variable of its number if it has two successors.
func mark(n int, next ...int) api.Block {
	b := api.Block{Ops: ops(constant(n, n)), Next: next}
	if len(next) == 2 {
		b.Cond = n
	}
	return b
}

// data is a graph of blocks with all that a graph has besides. Each block is a head: that of block 3 has the Max 13.
func data(l ...api.Block) api.Graph {
	g := api.Graph{
		Inputs: []api.Input{{Name: "x", Lo: -10, Hi: 10}, {Name: "y", Lo: math.MinInt32, Hi: math.MaxInt32}},
		Vars:   12, Keep: 3,
		Arrays: []api.Array{{Name: "a", Size: 1}, {Name: "b", Size: 4}, {Name: "c", Size: 2}, {Name: "d", Size: 8}}, Shared: 2,
		Blocks: l,
	}
	for b := range l {
		g.Heads = append(g.Heads, api.Head{Block: b, Max: b + 10})
	}
	return g
}

// text is all that a value has: nil and empty lists are the same.
func text(x any) string { return fmt.Sprintf("%+v", x) }

// blocks writes the blocks of a graph of marks, each one with its numbers, Cond and successors.
func blocks(g api.Graph) string {
	var out []string
	for _, b := range g.Blocks {
		var l []string
		for _, o := range b.Ops {
			l = append(l, fmt.Sprint(o.Imm))
		}
		if len(b.Next) > 1 {
			l = append(l, fmt.Sprint("by ", b.Cond))
		}
		if len(b.Next) > 0 {
			l = append(l, fmt.Sprint("to ", b.Next))
		}
		out = append(out, strings.Join(l, " "))
	}
	return strings.Join(out, "; ")
}

// headsOf writes the heads of a graph: each block with its Max.
func headsOf(g api.Graph) string {
	var l []string
	for _, h := range g.Heads {
		l = append(l, fmt.Sprintf("%d*%d", h.Block, h.Max))
	}
	return strings.Join(l, " ")
}

// unrolled unrolls a loop, and looks at all that is the same for all graphs: what was given has not changed, the result is valid, and of what it has besides blocks only Points and Heads are other ones.
func unrolled(t *testing.T, name string, g api.Graph, header int) (api.Graph, [][]int) {
	t.Helper()
	before := text(g)
	x, l, e := Unroll(g, header)
	if e != api.OK || text(g) != before || len(l) != len(g.Blocks) {
		t.Fatalf("%s: error %d, %v, %s\nbefore: %s", name, e, l, text(g), before)
	}
	if e := graph.Check(x); e != api.OK {
		t.Fatalf("%s: check %d of %s", name, e, text(x))
	}
	others := x
	others.Blocks, others.Points, others.Heads = g.Blocks, g.Points, g.Heads
	if text(others) != before {
		t.Fatalf("%s: %s\nnot %s", name, text(x), before)
	}
	return x, l
}

// P17.1: blocks, successors and the map

func TestBlocks(t *testing.T) {
	nested := []api.Block{mark(1, 1), mark(2, 2, 5), mark(3, 3, 4), mark(4, 2), mark(5, 1), mark(6)}
	three := []api.Block{mark(1, 1), mark(2, 2, 7), mark(3, 3, 6), mark(4, 4, 5), mark(5, 3), mark(6, 2), mark(7, 1), mark(8)}
	inFront := []api.Block{mark(1, 4), mark(2, 2, 3), mark(3, 1), mark(4, 4), mark(5, 1, 5), mark(6)}
	for name, c := range map[string]struct {
		blocks []api.Block
		header int
		want   string
		to     string
	}{
		"one block":          {[]api.Block{mark(1, 1), mark(2, 1, 2), mark(3)}, 1, "1 to [1]; 2 by 2 to [3 2]; 3; 2 by 2 to [1 2]", "[[0] [1 3] [2]]"},
		"one, the other way": {[]api.Block{mark(1, 1), mark(2, 2, 1), mark(3)}, 1, "1 to [1]; 2 by 2 to [2 3]; 3; 2 by 2 to [2 1]", "[[0] [1 3] [2]]"},
		"without an end":     {[]api.Block{mark(1, 1, 2), mark(2, 1), mark(3)}, 1, "1 by 1 to [1 2]; 2 to [3]; 3; 2 to [1]", "[[0] [1 3] [2]]"},
		"a body":             {[]api.Block{mark(1, 1), mark(2, 2, 3), mark(3, 1), mark(4)}, 1, "1 to [1]; 2 by 2 to [2 3]; 3 to [4]; 4; 2 by 2 to [5 3]; 3 to [1]", "[[0] [1 4] [2 5] [3]]"},
		"the body in front":  {[]api.Block{mark(1, 3), mark(2, 3), mark(3), mark(4, 1, 2)}, 3, "1 to [3]; 2 to [5]; 3; 4 by 4 to [1 2]; 2 to [3]; 4 by 4 to [4 2]", "[[0] [1 4] [2] [3 5]]"},
		"tested at the end":  {[]api.Block{mark(1, 2), mark(2, 2, 3), mark(3, 1), mark(4)}, 2, "1 to [2]; 2 by 2 to [5 3]; 3 to [1]; 4; 2 by 2 to [2 3]; 3 to [4]", "[[0] [1 4] [2 5] [3]]"},
		"left at two places": {[]api.Block{mark(1, 1), mark(2, 2, 4), mark(3, 4, 3), mark(4, 1), mark(5)}, 1, "1 to [1]; 2 by 2 to [2 4]; 3 by 3 to [4 3]; 4 to [5]; 5; 2 by 2 to [6 4]; 3 by 3 to [4 7]; 4 to [1]", "[[0] [1 5] [2 6] [3 7] [4]]"},
		"two back edges":     {[]api.Block{mark(1, 1), mark(2, 2, 4), mark(3, 1, 3), mark(4, 1), mark(5)}, 1, "1 to [1]; 2 by 2 to [2 4]; 3 by 3 to [5 3]; 4 to [5]; 5; 2 by 2 to [6 4]; 3 by 3 to [1 7]; 4 to [1]", "[[0] [1 5] [2 6] [3 7] [4]]"},
		"an if in it":        {[]api.Block{mark(1, 1), mark(2, 5, 2), mark(3, 4, 3), mark(4, 1), mark(5, 1), mark(6)}, 1, "1 to [1]; 2 by 2 to [5 2]; 3 by 3 to [4 3]; 4 to [6]; 5 to [6]; 6; 2 by 2 to [5 7]; 3 by 3 to [9 8]; 4 to [1]; 5 to [1]", "[[0] [1 6] [2 7] [3 8] [4 9] [5]]"},
		"an if before":       {[]api.Block{mark(1, 2, 1), mark(2, 1, 2), mark(3)}, 1, "1 by 1 to [2 1]; 2 by 2 to [3 2]; 3; 2 by 2 to [1 2]", "[[0] [1 3] [2]]"},
		// What is not reached leads to the loop itself, even to its header, and is no part of it.
		"from what is not reached": {[]api.Block{mark(1, 1), mark(2, 2, 3), mark(3, 1), mark(4), mark(5, 1), mark(6, 2, 1)}, 1, "1 to [1]; 2 by 2 to [2 3]; 3 to [6]; 4; 5 to [1]; 6 by 6 to [2 1]; 2 by 2 to [7 3]; 3 to [1]", "[[0] [1 6] [2 7] [3] [4] [5]]"},
		"the first of two":         {[]api.Block{mark(1, 1), mark(2, 1, 2), mark(3, 3), mark(4, 3, 4), mark(5)}, 1, "1 to [1]; 2 by 2 to [5 2]; 3 to [3]; 4 by 4 to [3 4]; 5; 2 by 2 to [1 2]", "[[0] [1 5] [2] [3] [4]]"},
		"the second of two":        {[]api.Block{mark(1, 1), mark(2, 1, 2), mark(3, 3), mark(4, 3, 4), mark(5)}, 3, "1 to [1]; 2 by 2 to [1 2]; 3 to [3]; 4 by 4 to [5 4]; 5; 4 by 4 to [3 4]", "[[0] [1] [2] [3 5] [4]]"},
		"the inner one":            {nested, 2, "1 to [1]; 2 by 2 to [2 5]; 3 by 3 to [3 4]; 4 to [6]; 5 to [1]; 6; 3 by 3 to [7 4]; 4 to [2]", "[[0] [1] [2 6] [3 7] [4] [5]]"},
		"the outer one":            {nested, 1, "1 to [1]; 2 by 2 to [2 5]; 3 by 3 to [3 4]; 4 to [2]; 5 to [6]; 6; 2 by 2 to [7 5]; 3 by 3 to [8 9]; 4 to [7]; 5 to [1]", "[[0] [1 6] [2 7] [3 8] [4 9] [5]]"},
		"the outermost of three":   {three, 1, "1 to [1]; 2 by 2 to [2 7]; 3 by 3 to [3 6]; 4 by 4 to [4 5]; 5 to [3]; 6 to [2]; 7 to [8]; 8; 2 by 2 to [9 7]; 3 by 3 to [10 13]; 4 by 4 to [11 12]; 5 to [10]; 6 to [9]; 7 to [1]", "[[0] [1 8] [2 9] [3 10] [4 11] [5 12] [6 13] [7]]"},
		"the one in the middle":    {three, 2, "1 to [1]; 2 by 2 to [2 7]; 3 by 3 to [3 6]; 4 by 4 to [4 5]; 5 to [3]; 6 to [8]; 7 to [1]; 8; 3 by 3 to [9 6]; 4 by 4 to [10 11]; 5 to [9]; 6 to [2]", "[[0] [1] [2 8] [3 9] [4 10] [5 11] [6] [7]]"},
		"the innermost of three":   {three, 3, "1 to [1]; 2 by 2 to [2 7]; 3 by 3 to [3 6]; 4 by 4 to [4 5]; 5 to [8]; 6 to [2]; 7 to [1]; 8; 4 by 4 to [9 5]; 5 to [3]", "[[0] [1] [2] [3 8] [4 9] [5] [6] [7]]"},
		"the outer one is later":   {inFront, 4, "1 to [4]; 2 by 2 to [2 3]; 3 to [1]; 4 to [9]; 5 by 5 to [1 5]; 6; 2 by 2 to [7 8]; 3 to [6]; 4 to [4]; 5 by 5 to [6 5]", "[[0] [1 6] [2 7] [3 8] [4 9] [5]]"},
		"the inner one is earlier": {inFront, 1, "1 to [4]; 2 by 2 to [2 3]; 3 to [6]; 4 to [4]; 5 by 5 to [1 5]; 6; 2 by 2 to [7 3]; 3 to [1]", "[[0] [1 6] [2 7] [3] [4] [5]]"},
	} {
		x, l := unrolled(t, name, data(c.blocks...), c.header)
		if blocks(x) != c.want || text(l) != c.to {
			t.Errorf("%s: %s, %v\nnot %s, %s", name, blocks(x), l, c.want, c.to)
		}
	}
}

// TestOperationsStay has operations of all kinds: both rounds have them, in the same order.
func TestOperationsStay(t *testing.T) {
	all := ops(api.Op{Kind: api.OpLock, Imm: 3}, api.Op{Kind: api.OpLoad, Dst: 4, A: 5, Imm: 1}, api.Op{Kind: api.OpCopy, Dst: 4, A: 5}, constant(3, math.MinInt32), constant(3, 7), constant(3, 7),
		api.Op{Kind: api.OpStore, A: 5, B: 4, Imm: 1}, api.Op{Kind: api.OpBin, Dst: 6, A: 7, B: 8, Imm: api.Ne}, api.Op{Kind: api.OpUnlock, Imm: 2})
	for n := range len(all) + 1 {
		x, _ := unrolled(t, "all", data(mark(1, 1), api.Block{Ops: all[:n], Cond: 9, Next: to(2, 3)}, api.Block{Ops: all[n:], Next: to(1)}, mark(4)), 1)
		want := [][]api.Op{mark(1).Ops, all[:n], all[n:], mark(4).Ops, all[:n], all[n:]}
		for b, block := range x.Blocks {
			if !slices.Equal(block.Ops, want[b]) || block.Cond != []int{0, 9, 0, 0, 9, 0}[b] {
				t.Errorf("%d: block %d: %+v", n, b, block)
			}
		}
	}
}

// P17.1: Points and Heads

func TestPoints(t *testing.T) {
	// The blocks 1, 2 and 3 become 1 and 5, 2 and 6, and 3 and 7.
	g := data(mark(1, 1), mark(2, 2, 4), mark(3, 3), mark(4, 1), mark(5))
	for _, c := range []struct {
		points [][]int
		want   string
	}{
		{nil, "[]"},
		{[][]int{nil, {}}, "[[] []]"},
		{[][]int{{0}, {1}, {2}, {3}, {4}}, "[[0] [1 5] [2 6] [3 7] [4]]"},
		{[][]int{{0, 1, 2, 3, 4}}, "[[0 1 2 3 4 5 6 7]]"},
		{[][]int{{3, 0, 1}}, "[[3 0 1 7 5]]"},
		{[][]int{{4, 3, 2, 1, 0}, {0, 4}, {2, 1}}, "[[4 3 2 1 0 7 6 5] [0 4] [2 1 6 5]]"},
		{[][]int{{2}, {}, {2}}, "[[2 6] [] [2 6]]"},
	} {
		g.Points = c.points
		if x, _ := unrolled(t, "points", g, 1); text(x.Points) != c.want {
			t.Errorf("%v: %v, not %s", c.points, x.Points, c.want)
		}
	}
}

func TestHeads(t *testing.T) {
	nested := []api.Block{mark(1, 1), mark(2, 2, 5), mark(3, 3, 4), mark(4, 2), mark(5, 1), mark(6)}
	behind := []api.Block{mark(1, 4), mark(2, 2, 3), mark(3, 1), mark(4, 4), mark(5, 1, 5), mark(6)}
	for _, c := range []struct {
		blocks []api.Block
		header int
		heads  []api.Head
		want   string
	}{
		{nested, 2, []api.Head{{Block: 1, Max: 5}, {Block: 2, Max: 3}}, "1*5 2*1"},
		{nested, 1, []api.Head{{Block: 1, Max: 5}, {Block: 2, Max: 3}}, "1*2 2*3 7*3"},
		{nested, 1, []api.Head{{Block: 1, Max: 0}, {Block: 2, Max: 0}}, "1*0 2*0 7*0"},
		{nested, 1, []api.Head{{Block: 1, Max: 4000}, {Block: 2, Max: 4000}}, "1*2000 2*4000 7*4000"},
		{behind, 4, []api.Head{{Block: 1, Max: 5}, {Block: 4, Max: 3}}, "1*5 4*1 6*5"},
		{behind, 1, []api.Head{{Block: 1, Max: 5}, {Block: 4, Max: 3}}, "1*2 4*3"},
		// Heads of blocks that are no headers go along, too.
		{nested, 2, []api.Head{{Block: 0, Max: 1}, {Block: 1, Max: 5}, {Block: 2, Max: 3}, {Block: 3, Max: 7}, {Block: 4, Max: 9}, {Block: 5, Max: 8}}, "0*1 1*5 2*1 3*7 4*9 5*8 7*7"},
		{nested, 1, []api.Head{{Block: 0, Max: 1}, {Block: 1, Max: 5}, {Block: 2, Max: 3}, {Block: 3, Max: 7}, {Block: 4, Max: 9}, {Block: 5, Max: 8}}, "0*1 1*2 2*3 3*7 4*9 5*8 7*3 8*7 9*9"},
		{behind, 4, []api.Head{{Block: 1, Max: 6}, {Block: 3, Max: 2}, {Block: 4, Max: 1}}, "1*6 3*2 4*0 6*6 8*2"},
	} {
		g := data(c.blocks...)
		g.Heads = c.heads
		if x, _ := unrolled(t, "heads", g, c.header); headsOf(x) != c.want {
			t.Errorf("%v: %s, not %s", c.heads, headsOf(x), c.want)
		}
	}
	// An odd Max loses the half of a round that it does not need.
	for most := range 4001 {
		g := data(mark(1, 1), mark(2, 1, 2), mark(3))
		g.Heads = []api.Head{{Block: 1, Max: most}}
		if x, _ := unrolled(t, "Max", g, 1); x.Heads[0].Max != (most-most%2)/2 {
			t.Errorf("%d: %s", most, headsOf(x))
		}
	}
}

// TestRounds counts rounds of a loop over an input. Its back edge is taken by each second one.
func TestRounds(t *testing.T) {
	sub := api.Op{Kind: api.OpBin, A: 0, B: 1, Imm: api.Sub}
	for rounds := range 12 {
		g := api.Graph{Vars: 2, Keep: 1, Inputs: []api.Input{{Lo: 0, Hi: rounds}}, Heads: []api.Head{{Block: 1, Max: rounds}}}
		g.Blocks = []api.Block{{Next: to(1)}, {Next: to(2, 3)}, {Ops: ops(constant(1, 1), sub), Next: to(1)}, {}}
		x, _ := unrolled(t, "once", g, 1)
		// Once more: the copies of 1, 2, 4 and 5 are 6 to 9.
		y, _ := unrolled(t, "twice", x, 1)
		for n := range rounds + 1 {
			o, e := trace.Run(x, to(n), nil, 1000)
			if want := to(1, n/2+1, (n+1)/2, 1, (n+1)/2, n/2); e != api.OK || !slices.Equal(o.Counts, want) || o.Vars[0] != 0 {
				t.Errorf("%d of %d rounds: error %d, %+v, not %v", n, rounds, e, o, want)
			}
			if x.Heads[0].Max != rounds/2 || o.Counts[5] > x.Heads[0].Max {
				t.Errorf("%d of %d rounds: %v back edges for %s", n, rounds, o.Counts[5], headsOf(x))
			}
			o, e = trace.Run(y, to(n), nil, 1000)
			if want := to(1, n/4+1, (n+3)/4, 1, (n+3)/4, (n+2)/4, (n+2)/4, (n+1)/4, (n+1)/4, n/4); e != api.OK || !slices.Equal(o.Counts, want) || o.Vars[0] != 0 {
				t.Errorf("%d of %d rounds, twice: error %d, %+v, not %v", n, rounds, e, o, want)
			}
		}
		if headsOf(y) != fmt.Sprintf("1*%d", rounds/4) {
			t.Errorf("%d rounds, twice: %s", rounds, headsOf(y))
		}
	}
}

// TestEntries has a loop that is entered again, behind an odd number of rounds: it begins with its first round.
func TestEntries(t *testing.T) {
	// Three rounds of the inner loop for each one of the outer loop: x of them.
	g := api.Graph{Vars: 4, Keep: 1, Inputs: []api.Input{{Lo: 0, Hi: 9}}, Heads: []api.Head{{Block: 1, Max: 9}, {Block: 3, Max: 3}}}
	sub := func(v int) []api.Op {
		return ops(constant(2, 1), api.Op{Kind: api.OpBin, Dst: v, A: v, B: 2, Imm: api.Sub})
	}
	g.Blocks = []api.Block{{Next: to(1)}, {Next: to(2, 6)}, {Ops: ops(constant(1, 3)), Next: to(3)}, {Cond: 1, Next: to(4, 5)}, {Ops: sub(1), Next: to(3)}, {Ops: sub(0), Next: to(1)}, {}}
	x, _ := unrolled(t, "the inner one", g, 3)
	for n := range 10 {
		o, e := trace.Run(x, to(n), nil, 1000)
		if want := to(1, n+1, n, 2*n, 2*n, n, 1, 2*n, n); e != api.OK || !slices.Equal(o.Counts, want) {
			t.Errorf("%d: error %d, %v, not %v", n, e, o.Counts, want)
		}
	}
}

// TestRightBehind has a loop that is entered from another one without a block between them: unrolled, it is entered from two blocks, and graph's Loops has no place for it. Unroll has no error for that.
func TestRightBehind(t *testing.T) {
	g := data(mark(1, 1), mark(2, 1, 2), mark(3, 2, 3), mark(4))
	x, _ := unrolled(t, "the first one", g, 1)
	if got := blocks(x); got != "1 to [1]; 2 by 2 to [4 2]; 3 by 3 to [2 3]; 4; 2 by 2 to [1 2]" {
		t.Error(got)
	}
	if _, e := graph.Loops(x); e != api.ErrForm {
		t.Errorf("loops: error %d", e)
	}
	if y, l, e := Unroll(x, 1); e != api.ErrForm || len(y.Blocks)+len(l) > 0 {
		t.Errorf("once more: error %d, %+v, %v", e, y, l)
	}
	x, _ = unrolled(t, "the second one", g, 2)
	if got := blocks(x); got != "1 to [1]; 2 by 2 to [1 2]; 3 by 3 to [4 3]; 4; 3 by 3 to [2 3]" {
		t.Error(got)
	}
	if l, e := graph.Loops(x); e != api.OK || len(l) != 2 {
		t.Errorf("loops: error %d, %+v", e, l)
	}
}

// P17.1: limits and errors

// large is a graph of so many blocks with so many operations each, in which those from 1 on that are nodes make up a loop; the others behind them follow one another. The last one has more operations.
func large(blocks, nodes, each, more int) api.Graph {
	g := api.Graph{Vars: 1, Heads: []api.Head{{Block: 1, Max: 9}}}
	for b := range blocks {
		g.Blocks = append(g.Blocks, api.Block{Ops: slices.Repeat(ops(constant(0, b)), each), Next: to(b + 1)})
	}
	g.Blocks[nodes].Next = to(1, nodes+1)
	last := &g.Blocks[blocks-1]
	last.Ops, last.Next = append(last.Ops, slices.Repeat(ops(constant(0, 0)), more)...), nil
	return g
}

func TestLimits(t *testing.T) {
	for _, c := range []struct {
		blocks, nodes, each, more int
		want                      api.Errno
	}{
		{63, 1, 0, 0, api.OK},
		{64, 1, 0, 0, api.ErrLimit},
		{62, 2, 9, 0, api.OK},
		{63, 2, 0, 0, api.ErrLimit},
		{33, 31, 0, 0, api.OK},
		{34, 31, 0, 0, api.ErrLimit},
		{34, 32, 0, 0, api.ErrLimit},
		{64, 62, 0, 0, api.ErrLimit},
		{63, 1, 1, 536, api.OK},
		{63, 1, 1, 537, api.ErrLimit},
		{64, 1, 9, 24, api.ErrLimit},
		{3, 1, 150, 0, api.OK},
		{3, 1, 150, 1, api.ErrLimit},
		{3, 1, 0, 600, api.OK},
		{3, 1, 200, 0, api.ErrLimit},
		{4, 2, 100, 0, api.OK},
		{4, 2, 101, 0, api.ErrLimit},
		{4, 2, 100, 1, api.ErrLimit},
		{33, 31, 9, 24, api.OK},
		{33, 31, 9, 25, api.ErrLimit},
	} {
		g := large(c.blocks, c.nodes, c.each, c.more)
		before := text(g)
		if c.want == api.OK {
			x, l := unrolled(t, "large", g, 1)
			if len(x.Blocks) != c.blocks+c.nodes || len(l) != c.blocks {
				t.Errorf("%+v: %d blocks, %v", c, len(x.Blocks), l)
			}
		} else if x, l, e := Unroll(g, 1); e != c.want || text(x) != text(api.Graph{}) || len(l) != 0 || text(g) != before {
			t.Errorf("%+v: error %d, %+v, %v", c, e, x, l)
		}
	}
}

// TestTheGreatest has all lists as long as they can be.
func TestTheGreatest(t *testing.T) {
	g := large(33, 31, 9, 24)
	g.Inputs, g.Arrays = slices.Repeat([]api.Input{{Lo: math.MinInt32, Hi: math.MaxInt32}}, 64), slices.Repeat([]api.Array{{Size: 16}}, 8)
	g.Vars, g.Keep, g.Shared = 64, 64, 8
	g.Heads = nil
	var all, copies []int
	for b := range g.Blocks {
		g.Heads = append(g.Heads, api.Head{Block: b, Max: 4000})
		all = append(all, b)
	}
	for b := 33; b < 64; b++ {
		copies = append(copies, b)
	}
	g.Points = slices.Repeat([][]int{all}, 39)
	x, _ := unrolled(t, "the greatest", g, 1)
	if len(x.Blocks) != 64 || len(x.Heads) != 63 || x.Heads[1].Max != 2000 || x.Heads[62] != (api.Head{Block: 63, Max: 4000}) || text(x.Points) != text(slices.Repeat([][]int{append(all, copies...)}, 39)) {
		t.Errorf("%+v", x)
	}
}

// TestErrors has each error, with those that come behind it.
func TestErrors(t *testing.T) {
	loop := func(more ...api.Block) api.Graph {
		return data(append([]api.Block{mark(1, 1), mark(2, 1, 2), mark(3)}, more...)...)
	}
	with := func(g api.Graph, change func(*api.Graph)) api.Graph {
		change(&g)
		return g
	}
	full := large(64, 1, 9, 24)
	for name, c := range map[string]struct {
		g       api.Graph
		headers []int
		want    api.Errno
	}{
		"nothing":                 {api.Graph{}, to(0, 1, -1), api.ErrForm},
		"two ends":                {loop(mark(4)), to(1, 0), api.ErrForm},
		"no end":                  {data(mark(1, 1), mark(2, 1)), to(1), api.ErrForm},
		"back to the first":       {data(mark(1, 1), mark(2, 0, 2), mark(3)), to(0, 1), api.ErrForm},
		"no successor":            {loop(mark(4, 4)), to(1), api.ErrForm},
		"no variable":             {with(loop(), func(g *api.Graph) { g.Vars = 2; g.Keep = 2 }), to(1), api.ErrForm},
		"no kind":                 {loop(api.Block{Ops: ops(api.Op{Kind: 8}), Next: to(1)}), to(1), api.ErrForm},
		"a point":                 {with(loop(), func(g *api.Graph) { g.Points = [][]int{{3}} }), to(1), api.ErrForm},
		"a point that is a copy":  {with(loop(), func(g *api.Graph) { g.Points = [][]int{{1, 3}} }), to(1), api.ErrForm},
		"a point twice":           {with(loop(), func(g *api.Graph) { g.Points = [][]int{{1, 1}} }), to(1), api.ErrForm},
		"a head":                  {with(loop(), func(g *api.Graph) { g.Heads = []api.Head{{Block: 1}, {Block: 3}} }), to(1), api.ErrForm},
		"heads in another row":    {with(loop(), func(g *api.Graph) { g.Heads = []api.Head{{Block: 2}, {Block: 1}} }), to(1), api.ErrForm},
		"a head of too many":      {with(loop(), func(g *api.Graph) { g.Heads = []api.Head{{Block: 1, Max: 4001}} }), to(1), api.ErrForm},
		"a head of less than 0":   {with(loop(), func(g *api.Graph) { g.Heads = []api.Head{{Block: 1, Max: -1}} }), to(1), api.ErrForm},
		"no head":                 {with(loop(), func(g *api.Graph) { g.Heads = []api.Head{{Block: 0}, {Block: 2}} }), to(1, 0), api.ErrForm},
		"no head of another one":  {with(data(mark(1, 1), mark(2, 1, 2), mark(3, 3), mark(4, 3, 4), mark(5)), func(g *api.Graph) { g.Heads = []api.Head{{Block: 1}} }), to(1, 3), api.ErrForm},
		"two before":              {data(mark(1, 1, 2), mark(2, 3), mark(3, 3), mark(4, 3, 4), mark(5)), to(3, 1), api.ErrForm},
		"two ways into a cycle":   {data(mark(1, 1, 2), mark(2, 2), mark(3, 1, 3), mark(4)), to(1, 2, 9), api.ErrForm},
		"wrong, and large":        {with(large(64, 1, 9, 24), func(g *api.Graph) { g.Heads = nil }), to(1), api.ErrForm},
		"variables":               {with(loop(), func(g *api.Graph) { g.Vars = 65 }), to(1, 0), api.ErrLimit},
		"blocks":                  {large(65, 1, 0, 0), to(1, 0), api.ErrLimit},
		"operations":              {large(3, 1, 200, 1), to(1, 0), api.ErrLimit},
		"arrays":                  {with(loop(), func(g *api.Graph) { g.Arrays = make([]api.Array, 9) }), to(1), api.ErrLimit},
		"points":                  {with(loop(), func(g *api.Graph) { g.Points = make([][]int, 40) }), to(1), api.ErrLimit},
		"no loop":                 {data(mark(1, 1, 2), mark(2, 2), mark(3)), to(-1, 0, 1, 2, 3), api.ErrBlock},
		"one block":               {data(mark(1)), to(-1, 0, 1), api.ErrBlock},
		"another block":           {loop(), to(0, 2, 3, -1, 64, math.MinInt, math.MaxInt), api.ErrBlock},
		"a node of it":            {data(mark(1, 1), mark(2, 2, 3), mark(3, 1), mark(4)), to(0, 2, 3, 4, 5), api.ErrBlock},
		"a loop, not reached":     {loop(mark(4, 3, 2), mark(5, 5), mark(6, 4)), to(3, 4, 5), api.ErrBlock},
		"another block, and full": {full, to(-1, 0, 2, 63, 64), api.ErrBlock},
		"full":                    {full, to(1), api.ErrLimit},
	} {
		for _, header := range c.headers {
			before := text(c.g)
			x, l, e := Unroll(c.g, header)
			if e != c.want || text(x) != text(api.Graph{}) || len(l) != 0 || text(c.g) != before {
				t.Errorf("%s, %d: error %d, not %d, %+v, %v", name, header, e, c.want, x, l)
			}
		}
	}
}

// R3: memory

// wipe changes all that lists of a graph have, and writes behind their ends.
func wipe(g api.Graph) {
	lists := g.Points
	for b, block := range g.Blocks {
		clear(block.Ops)
		_ = append(block.Ops, constant(5, 5))
		lists, g.Blocks[b] = append(lists, block.Next), api.Block{}
	}
	for _, l := range lists {
		clear(l)
		_ = append(l, -99)
	}
	clear(g.Inputs)
	clear(g.Arrays)
	clear(g.Points)
	clear(g.Heads)
}

// roomy is a graph with a loop in another one, and with room behind the ends of all lists.
func roomy() api.Graph {
	g := data(mark(1, 1), mark(2, 2, 5), mark(3, 3, 4), mark(4, 2), mark(5, 1), mark(6))
	g.Points = make([][]int, 3, 9)
	g.Heads = append(make([]api.Head, 0, 20), g.Heads...)
	g.Blocks = append(make([]api.Block, 0, 20), g.Blocks...)
	for b := range g.Blocks {
		g.Blocks[b].Ops = append(make([]api.Op, 0, 9), g.Blocks[b].Ops...)
		g.Blocks[b].Next = append(make([]int, 0, 9), g.Blocks[b].Next...)
		g.Points[b%3] = append(g.Points[b%3], b)
	}
	for p, list := range g.Points {
		g.Points[p] = append(make([]int, 0, 20), list...)
	}
	return g
}

// TestResultsAreNew changes what was given and what was returned: nothing else changes.
func TestResultsAreNew(t *testing.T) {
	for header := 1; header < 3; header++ {
		g := roomy()
		x, l, _ := Unroll(g, header)
		want, lists := text(x), text(l)
		wipe(g)
		if text(x) != want || text(l) != lists {
			t.Errorf("what was given has changed it: %+v, %v", x, l)
		}
		g = roomy()
		before := text(g)
		x, l, _ = Unroll(g, header)
		wipe(x)
		if text(g) != before || text(l) != lists {
			t.Errorf("what was returned has changed %+v, %v", g, l)
		}
		// What is behind the ends of the lists of what was given is nobody's.
		for _, list := range g.Points {
			if text(list[:cap(list)][len(list):]) != text(make([]int, cap(list)-len(list))) {
				t.Errorf("behind the end: %v", list[:cap(list)])
			}
		}
		// Lists of one result are changed one by one: no two of them share memory.
		x, l, _ = Unroll(g, header)
		numbers, operations := slices.Concat(x.Points, l), [][]api.Op{}
		for _, b := range x.Blocks {
			numbers, operations = append(numbers, b.Next), append(operations, b.Ops)
		}
		apart(t, numbers, -99)
		apart(t, operations, constant(5, 5))
		if text(g) != before {
			t.Errorf("lists of the result have changed %+v", g)
		}
		if y, m, e := Unroll(roomy(), header); e != api.OK || text(y) != want || text(m) != lists {
			t.Errorf("again: error %d, %+v, %v", e, y, m)
		}
	}
}

// apart changes lists one by one, and writes behind their ends: all others stay.
func apart[T any](t *testing.T, lists [][]T, x T) {
	t.Helper()
	for i, list := range lists {
		others := text([]any{lists[:i], lists[i+1:]})
		for n := range list {
			list[n] = x
		}
		_ = append(list, x)
		if text([]any{lists[:i], lists[i+1:]}) != others {
			t.Errorf("the list %d has changed others", i)
		}
	}
}

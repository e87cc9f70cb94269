package optimise

import (
	"fmt"
	"math"
	"slices"
	"strconv"
	"strings"
	"testing"
	"timebound/api"
	"timebound/dead"
	"timebound/fold"
	"timebound/graph"
	"timebound/merge"
	"timebound/unroll"
)

func to(l ...int) []int { return l }

func ops(l ...api.Op) []api.Op { return l }

func constant(dst, n int) api.Op { return api.Op{Kind: api.OpConst, Dst: dst, Imm: n} }

// mark is a block with one operation, by which it is known again: no pass leaves it out. It branches by the variable of its number if it has two successors.
func mark(n int, next ...int) api.Block {
	b := api.Block{Ops: ops(api.Op{Kind: api.OpStore, A: n, B: n}), Next: next}
	if len(next) == 2 {
		b.Cond = n
	}
	return b
}

// knows is a mark behind an operation by which the variable 30 is known. It branches by that.
func knows(n, imm int, next ...int) api.Block {
	b := mark(n, next...)
	b.Ops = append(ops(constant(30, imm)), b.Ops...)
	if len(next) == 2 {
		b.Cond = 30
	}
	return b
}

// empty is a block without operations. It branches by variable 0 if it has two successors.
func empty(next ...int) api.Block { return api.Block{Next: next} }

// data is a graph of blocks with all that a graph has besides, but for Points. Heads are pairs of numbers: a block, and its Max.
func data(heads []int, l ...api.Block) api.Graph {
	g := api.Graph{
		Inputs: []api.Input{{Name: "x", Lo: -10, Hi: 10}, {Name: "y", Lo: math.MinInt32, Hi: math.MaxInt32}},
		Vars:   64, Keep: 3,
		Arrays: []api.Array{{Name: "a", Size: 16}, {Name: "b", Size: 4}, {Name: "c", Size: 2}}, Shared: 2,
		Blocks: l,
	}
	for i := 0; i < len(heads); i += 2 {
		g.Heads = append(g.Heads, api.Head{Block: heads[i], Max: heads[i+1]})
	}
	return g
}

// text is all that a value has: nil and empty lists are the same.
func text(x any) string { return fmt.Sprintf("%+v", x) }

// blocks writes the blocks of a graph, each one with its marks, what it knows, Cond and successors.
func blocks(g api.Graph) string {
	var out []string
	for _, b := range g.Blocks {
		var l []string
		for _, o := range b.Ops {
			if o.Kind == api.OpStore {
				l = append(l, fmt.Sprint(o.A))
			} else {
				l = append(l, fmt.Sprint(o.Dst, "=", o.Imm))
			}
		}
		if len(b.Next) > 1 {
			l = append(l, fmt.Sprint("by ", b.Cond))
		}
		if len(b.Next) > 0 {
			l = append(l, fmt.Sprint("to ", b.Next))
		}
		out = append(out, strings.Join(l, " "))
	}
	return strings.Join(out, "; ")
}

// headsOf writes the heads of a graph: each block with its Max.
func headsOf(g api.Graph) string {
	var l []string
	for _, h := range g.Heads {
		l = append(l, fmt.Sprintf("%d*%d", h.Block, h.Max))
	}
	return strings.Join(l, " ")
}

// row reads passes: F, D and M, and U3, which unrolls the loop with the header 3. A number behind the others is an Arg, too; one alone is a kind.
func row(s string) []api.Pass {
	kinds := map[byte]int{'F': api.PassFold, 'D': api.PassDead, 'M': api.PassMerge, 'U': api.PassUnroll}
	var l []api.Pass
	for _, word := range strings.Fields(s) {
		kind, found := kinds[word[0]]
		number := word
		if found {
			number = word[1:]
		}
		n, _ := strconv.Atoi(number)
		if found {
			l = append(l, api.Pass{Kind: kind, Arg: n})
		} else {
			l = append(l, api.Pass{Kind: n})
		}
	}
	return l
}

// ran carries out passes, and looks at all that is the same for all graphs: what was given has not changed, the result is valid, and of what it has besides blocks only Points and Heads are other ones.
func ran(t *testing.T, name string, g api.Graph, l []api.Pass) (api.Graph, [][]int) {
	t.Helper()
	before, list := text(g), text(l)
	x, m, e := Run(g, l)
	if e != api.OK || text(g) != before || text(l) != list || len(m) != len(g.Blocks) {
		t.Fatalf("%s: error %d, %v, %s, %v\nbefore: %s, %s", name, e, m, text(g), l, before, list)
	}
	if e := graph.Check(x); e != api.OK {
		t.Fatalf("%s: check %d of %s", name, e, text(x))
	}
	others := x
	others.Blocks, others.Points, others.Heads = g.Blocks, g.Points, g.Heads
	if text(others) != before {
		t.Fatalf("%s: %s\nnot %s", name, text(x), before)
	}
	return x, m
}

// refused looks at an error: there is nothing besides.
func refused(t *testing.T, name string, g api.Graph, l []api.Pass, want api.Errno) {
	t.Helper()
	before, list := text(g), text(l)
	if x, m, e := Run(g, l); e != want || text(x) != text(api.Graph{}) || len(m) != 0 || text(g) != before || text(l) != list {
		t.Errorf("%s, %v: error %d, not %d, %+v, %v, %s", name, l, e, want, x, m, text(g))
	}
}

// P18.1: passes in order, and their map

// known has a branch that is known, to a block that stays and to one that does not.
func known(heads ...int) api.Graph {
	return data(heads, knows(0, 1, 1, 2), mark(1, 3), mark(2, 3), mark(3))
}

// looped has a loop behind a block that is not reached.
func looped() api.Graph {
	return data(to(2, 9), mark(0, 2), mark(1, 2, 4), mark(2, 3, 4), mark(3, 2), mark(4))
}

// endless has a loop that is never left, and a way around it.
func endless() api.Graph { return data(to(1, 4000), empty(1, 2), empty(1), empty()) }

func TestInOrder(t *testing.T) {
	for _, c := range []struct {
		g                api.Graph
		passes, want, to string
	}{
		{known(), "", "30=1 0 by 30 to [1 2]; 1 to [3]; 2 to [3]; 3", "[[0] [1] [2] [3]]"},
		{known(), "F", "30=1 0 to [1]; 1 to [3]; 2 to [3]; 3", "[[0] [1] [2] [3]]"},
		{known(), "D", "30=1 0 by 30 to [1 2]; 1 to [3]; 2 to [3]; 3", "[[0] [1] [2] [3]]"},
		{known(), "M", "30=1 0 by 30 to [1 2]; 1 to [3]; 2 to [3]; 3", "[[0] [1] [2] [3]]"},
		{known(), "F D", "0 to [1]; 1 to [2]; 3", "[[0] [1] [] [2]]"},
		{known(), "D F", "30=1 0 to [1]; 1 to [3]; 2 to [3]; 3", "[[0] [1] [2] [3]]"},
		{known(), "F M", "30=1 0 1 to [2]; 2 to [2]; 3", "[[0] [0] [1] [2]]"},
		{known(), "M F", "30=1 0 to [1]; 1 to [3]; 2 to [3]; 3", "[[0] [1] [2] [3]]"},
		{known(), "F D M", "0 1 3", "[[0] [0] [] [0]]"},
		{known(), "F M D", "0 1 to [1]; 3", "[[0] [0] [] [1]]"},
		{known(), "D F M", "30=1 0 1 to [2]; 2 to [2]; 3", "[[0] [0] [1] [2]]"},
		{known(), "M D F", "30=1 0 to [1]; 1 to [3]; 2 to [3]; 3", "[[0] [1] [2] [3]]"},
		{known(), "F M D M", "0 1 3", "[[0] [0] [] [0]]"},
		{known(), "F F D D M M", "0 1 3", "[[0] [0] [] [0]]"},
		{known(1, 5), "F D M", "0 to [1]; 1 3", "[[0] [1] [] [1]]"},
		{known(1, 5, 3, 7), "F D M", "0 to [1]; 1 to [2]; 3", "[[0] [1] [] [2]]"},
		{known(2, 5), "F D M", "0 1 3", "[[0] [0] [] [0]]"},

		{looped(), "U2", "0 to [2]; 1 by 1 to [2 4]; 2 by 2 to [3 4]; 3 to [5]; 4; 2 by 2 to [6 4]; 3 to [2]", "[[0] [1] [2 5] [3 6] [4]]"},
		{looped(), "M U2", "0 to [2]; 1 by 1 to [2 4]; 2 by 2 to [3 4]; 3 to [5]; 4; 2 by 2 to [6 4]; 3 to [2]", "[[0] [1] [2 5] [3 6] [4]]"},
		{looped(), "U2 M", "0 to [2]; 1 by 1 to [2 4]; 2 by 2 to [3 4]; 3 2 by 2 to [5 4]; 4; 3 to [2]", "[[0] [1] [2 3] [3 5] [4]]"},
		{looped(), "U2 D", "0 to [1]; 2 by 2 to [2 3]; 3 to [4]; 4; 2 by 2 to [5 3]; 3 to [1]", "[[0] [] [1 4] [2 5] [3]]"},
		{looped(), "D U1", "0 to [1]; 2 by 2 to [2 3]; 3 to [4]; 4; 2 by 2 to [5 3]; 3 to [1]", "[[0] [] [1 4] [2 5] [3]]"},
		{looped(), "D U1 M", "0 to [1]; 2 by 2 to [2 3]; 3 2 by 2 to [4 3]; 4; 3 to [1]", "[[0] [] [1 2] [2 4] [3]]"},
		{looped(), "U2 D M", "0 to [1]; 2 by 2 to [2 3]; 3 2 by 2 to [4 3]; 4; 3 to [1]", "[[0] [] [1 2] [2 4] [3]]"},
		{looped(), "D U1 U1", "0 to [1]; 2 by 2 to [2 3]; 3 to [4]; 4; 2 by 2 to [5 3]; 3 to [6]; 2 by 2 to [7 3]; 3 to [8]; 2 by 2 to [9 3]; 3 to [1]", "[[0] [] [1 6 4 8] [2 7 5 9] [3]]"},
		{looped(), "D U1 M U1", "0 to [1]; 2 by 2 to [2 3]; 3 2 by 2 to [4 3]; 4; 3 to [5]; 2 by 2 to [6 3]; 3 2 by 2 to [7 3]; 3 to [1]", "[[0] [] [1 5 2 6] [2 6 4 7] [3]]"},
		{looped(), "D U1 M U1 M", "0 to [1]; 2 by 2 to [2 3]; 3 2 by 2 to [4 3]; 4; 3 2 by 2 to [5 3]; 3 2 by 2 to [6 3]; 3 to [1]", "[[0] [] [1 4 2 5] [2 5 4 6] [3]]"},

		// A block and its copy become one: it counts for both.
		{endless(), "U1", "by 0 to [1 2]; to [3]; ; to [1]", "[[0] [1 3] [2]]"},
		{endless(), "U1 M", "by 0 to [1 2]; to [1]; ", "[[0] [1 1] [2]]"},
		{endless(), "U1 M U1", "by 0 to [1 2]; to [3]; ; to [1]", "[[0] [1 3 1 3] [2]]"},
		{endless(), "U1 M U1 M D F", "by 0 to [1 2]; to [1]; ", "[[0] [1 1 1 1] [2]]"},
	} {
		x, m := ran(t, c.passes, c.g, row(c.passes))
		if blocks(x) != c.want || text(m) != c.to {
			t.Errorf("%s: %s, %v\nnot %s, %s", c.passes, blocks(x), m, c.want, c.to)
		}
	}
}

func TestPointsAndHeads(t *testing.T) {
	g := looped()
	g.Points = [][]int{{0}, {3, 1}, {2}, {}, {4, 0}}
	g.Heads = []api.Head{{Block: 1, Max: 5}, {Block: 2, Max: 9}, {Block: 4, Max: 1}}
	for _, c := range []struct{ passes, points, heads string }{
		{"", "[[0] [3 1] [2] [] [4 0]]", "1*5 2*9 4*1"},
		{"F", "[[0] [3 1] [2] [] [4 0]]", "1*5 2*9 4*1"},
		{"D", "[[0] [2] [1] [] [3 0]]", "1*9 3*1"},
		{"U2", "[[0] [3 1 6] [2 5] [] [4 0]]", "1*5 2*4 4*1"},
		{"U2 D", "[[0] [2 5] [1 4] [] [3 0]]", "1*4 3*1"},
		{"D U1", "[[0] [2 5] [1 4] [] [3 0]]", "1*4 3*1"},
		{"D U1 M", "[[0] [2 4] [1 2] [] [3 0]]", "1*4 3*1"},
		{"D U1 M U1", "[[0] [2 4 6 7] [1 2 5 6] [] [3 0]]", "1*2 3*1"},
	} {
		x, _ := ran(t, c.passes, g, row(c.passes))
		if headsOf(x) != c.heads || text(x.Points) != c.points {
			t.Errorf("%s: %v, %s, not %s, %s", c.passes, x.Points, headsOf(x), c.points, c.heads)
		}
	}
}

// TestEachAlone has each pass by itself: it is that of its layer. Its Arg is looked at by one of them only.
func TestEachAlone(t *testing.T) {
	g := roomyGraph()
	for kind, pass := range map[int]func(api.Graph) (api.Graph, [][]int, api.Errno){
		api.PassFold: fold.Fold, api.PassDead: dead.Dead, api.PassMerge: merge.Merge,
		api.PassUnroll: func(g api.Graph) (api.Graph, [][]int, api.Errno) { return unroll.Unroll(g, 2) },
	} {
		want, m, e := pass(g)
		if e != api.OK || text(want) == text(g) {
			t.Fatalf("kind %d: error %d, %+v", kind, e, want)
		}
		for _, arg := range to(2, 0, 3, 9, 10, -1, math.MinInt, math.MaxInt) {
			l := []api.Pass{{Kind: kind, Arg: arg}}
			if arg != 2 && kind == api.PassUnroll {
				refused(t, "no header", g, l, api.ErrBlock)
				continue
			}
			if x, n := ran(t, "alone", g, l); text(x) != text(want) || text(n) != text(m) {
				t.Errorf("%v: %+v, %v\nnot %+v, %v", l, x, n, want, m)
			}
		}
	}
}

// TestNone has no passes: the graph itself, whatever it is, but another one.
func TestNone(t *testing.T) {
	for name, g := range map[string]api.Graph{
		"one block":       {Blocks: []api.Block{{}}},
		"all":             roomyGraph(),
		"no heads":        data(nil, mark(0, 1), mark(1, 1, 2), mark(2)),
		"two ways in":     data(nil, mark(0, 1, 2), mark(1, 2), mark(2, 1, 3), mark(3)),
		"not reached":     data(nil, mark(0), mark(1, 2), mark(2, 1)),
		"empty lists":     {Inputs: []api.Input{}, Arrays: []api.Array{}, Points: [][]int{{}, nil}, Heads: []api.Head{}, Blocks: []api.Block{{Ops: []api.Op{}, Next: []int{}}}},
		"many blocks":     large(64, 0),
		"many operations": large(64, 600),
	} {
		for _, l := range [][]api.Pass{nil, {}} {
			x, m := ran(t, name, g, l)
			var want [][]int
			for b := range g.Blocks {
				want = append(want, to(b))
			}
			if text(x) != text(g) || text(m) != text(want) {
				t.Errorf("%s: %+v, %v\nnot %+v", name, x, m, g)
			}
		}
	}
}

// P18.1: errors

// large is a chain of so many blocks with so many operations.
func large(blocks, operations int) api.Graph {
	g := api.Graph{Vars: 1, Arrays: []api.Array{{Size: 1}}}
	for b := range blocks {
		g.Blocks = append(g.Blocks, empty(b+1))
	}
	g.Blocks[blocks-1] = api.Block{Ops: slices.Repeat(mark(0).Ops, operations)}
	return g
}

func TestErrors(t *testing.T) {
	some := func(n int, pass string) string { return strings.Repeat(pass+" ", n) }
	for name, c := range map[string]struct {
		g      api.Graph
		passes []string
		want   api.Errno
	}{
		"nothing":              {api.Graph{}, []string{"", "F", "0", "U1", some(17, "0")}, api.ErrForm},
		"two ends":             {data(nil, mark(0, 1, 2), mark(1), mark(2)), []string{"", "M", "5", some(17, "F")}, api.ErrForm},
		"no variable":          {data(nil, mark(0, 1), mark(64)), []string{"", "D", "-1", some(17, "F")}, api.ErrForm},
		"a head":               {data(to(1, 5, 2, 5), mark(0, 1), mark(1)), []string{"", "F", "U1", "0", some(17, "F")}, api.ErrForm},
		"blocks":               {large(65, 0), []string{"", "M", "0", "U1", some(17, "F")}, api.ErrLimit},
		"operations":           {large(3, 601), []string{"", "M", "0", "U1", some(17, "F")}, api.ErrLimit},
		"17 passes":            {looped(), []string{some(17, "F"), some(17, "0"), "0 " + some(16, "F"), some(16, "F") + "0", "U9 " + some(16, "F"), some(99, "M"), some(1000, "9")}, api.ErrLimit},
		"a kind":               {looped(), []string{"0", "5", "-1", "-4", "6", "7", "8", "9", "12", "17", "257", "4294967297", "9223372036854775807", "-9223372036854775808", "F 0", "0 F", "F D M U1 5", "F D M 5 U9", "0 U9", some(15, "F") + "0", some(16, "5")}, api.ErrKind},
		"no header":            {looped(), []string{"U0", "U1", "U3", "U4", "U5", "U-1", "U9223372036854775807", "F U1", "D U2", "U1 0", "D U2 5", "D U1 U4", "U2 D U2", some(15, "F") + "U1"}, api.ErrBlock},
		"a loop that has gone": {data(to(1, 5), mark(0, 1), knows(1, 0, 1, 2), mark(2)), []string{"F U1", "D F U1", "F U1 0"}, api.ErrBlock},
		"no loops":             {data(nil, mark(0, 1), mark(1, 1, 2), mark(2)), []string{"U1", "U0", "F D M U1", "F U9", "F U9 0"}, api.ErrForm},
		"two ways in":          {data(nil, mark(0, 1, 2), mark(1, 2), mark(2, 1, 3), mark(3)), []string{"U1", "M U2", "U0 0"}, api.ErrForm},
		// A loop right behind the unrolled one is then entered from two blocks.
		"no loops any more": {data(to(1, 5, 2, 5), mark(0, 1), mark(1, 1, 2), mark(2, 2, 3), mark(3)), []string{"U1 U1", "U1 U2", "U1 F D M U9", "U1 U2 0"}, api.ErrForm},
		// 1 + 4 blocks become 3 + 32, and no more than that.
		"no room for blocks":     {data(to(1, 9), empty(1), empty(2, 3), empty(1), empty()), []string{some(5, "U1"), some(6, "U1"), some(5, "U1") + "0", "M " + some(5, "U1")}, api.ErrLimit},
		"no room for operations": {data(to(1, 9), mark(0, 1), api.Block{Ops: slices.Repeat(mark(1).Ops, 120), Cond: 1, Next: to(1, 2)}, mark(2)), []string{"U1 U1 U1", "U1 U1 M U1 0"}, api.ErrLimit},
		// 256 blocks, all of them the same, are no more than there can be in a list; 512 are.
		"a list too long": {endless(), []string{some(5, "U1") + "M " + some(4, "U1"), some(5, "U1") + "M " + some(4, "U1") + "0", some(4, "U1") + "M " + some(5, "U1"), some(5, "U1") + "M U1 U1 M U1 F U1", strings.Repeat("U1 U1 U1 M ", 4)}, api.ErrLimit},
	} {
		for _, passes := range c.passes {
			refused(t, name, c.g, row(passes), c.want)
		}
	}
}

// TestNoErrors has as many of all as there can be.
func TestNoErrors(t *testing.T) {
	for name, c := range map[string]struct {
		g      api.Graph
		passes string
		blocks int
	}{
		"16 times the same":   {looped(), strings.Repeat("F ", 16), 5},
		"16 passes":           {looped(), strings.Repeat("F D M F ", 4), 4},
		"room for blocks":     {data(to(1, 9), empty(1), empty(2, 3), empty(1), empty()), "U1 U1 U1 U1", 34},
		"room for blocks, M":  {data(to(1, 9), empty(1), empty(2, 3), empty(1), empty()), "U1 M U1 M U1 M U1 M", 19},
		"64 blocks":           {data(to(1, 9), empty(1), empty(2, 3), empty(4), empty(), empty(5), empty(6), empty(1)), "U1 U1 U1", 42},
		"room for operations": {data(to(1, 9), mark(0, 1), api.Block{Ops: slices.Repeat(mark(1).Ops, 149), Cond: 1, Next: to(1, 2)}, mark(2)), "U1 U1", 6},
	} {
		if x, _ := ran(t, name, c.g, row(c.passes)); len(x.Blocks) != c.blocks {
			t.Errorf("%s: %d blocks, not %d", name, len(x.Blocks), c.blocks)
		}
	}
	for _, passes := range []string{"U1 U1 U1 U1 U1 M U1 U1 U1", "U1 U1 U1 U1 U1 M U1 U1 U1 M", "U1 U1 U1 U1 M U1 U1 U1 U1 F D M F D M"} {
		_, m := ran(t, "256 in a list", endless(), row(passes))
		if len(m[1]) != 256 || text(m[0]) != "[0]" || text(m[2]) != "[2]" {
			t.Errorf("%s: %v", passes, m)
		}
	}
}

// R3: memory

// roomyGraph is a graph with a loop in another one, for all passes, and with room behind the ends of all lists.
func roomyGraph() api.Graph {
	g := data(to(1, 8, 2, 6), mark(0, 8), knows(1, 7, 2, 5), mark(2, 3, 4), mark(3, 2), mark(4, 1), mark(5, 9), mark(6, 5), mark(7), mark(8, 1), mark(9, 7))
	g.Blocks[1].Cond = 1
	g.Points = make([][]int, 3, 9)
	g.Heads = append(make([]api.Head, 0, 20), g.Heads...)
	g.Blocks = append(make([]api.Block, 0, 30), g.Blocks...)
	for b := range g.Blocks {
		g.Blocks[b].Ops = append(make([]api.Op, 0, 9), g.Blocks[b].Ops...)
		g.Blocks[b].Next = append(make([]int, 0, 9), g.Blocks[b].Next...)
		g.Points[b%3] = append(g.Points[b%3], b)
	}
	// A copy of a copy, for fold.
	g.Blocks[3].Ops = append(g.Blocks[3].Ops, constant(9, 4), api.Op{Kind: api.OpCopy, Dst: 8, A: 9}, api.Op{Kind: api.OpCopy, Dst: 7, A: 8})
	for p, list := range g.Points {
		g.Points[p] = append(make([]int, 0, 20), list...)
	}
	return g
}

// wipe changes all that lists of a graph have, and writes behind their ends.
func wipe(g api.Graph) {
	lists := g.Points
	for b, block := range g.Blocks {
		clear(block.Ops)
		_ = append(block.Ops, constant(5, 5))
		lists, g.Blocks[b] = append(lists, block.Next), api.Block{}
	}
	for _, l := range lists {
		clear(l)
		_ = append(l, -99)
	}
	clear(g.Inputs)
	clear(g.Arrays)
	clear(g.Points)
	clear(g.Heads)
}

// apart changes lists one by one, and writes behind their ends: all others stay.
func apart[T any](t *testing.T, lists [][]T, x T) {
	t.Helper()
	for i, list := range lists {
		others := text([]any{lists[:i], lists[i+1:]})
		for n := range list {
			list[n] = x
		}
		_ = append(list, x)
		if text([]any{lists[:i], lists[i+1:]}) != others {
			t.Errorf("the list %d has changed others", i)
		}
	}
}

// TestResultsAreNew changes what was given and what was returned: nothing else changes.
func TestResultsAreNew(t *testing.T) {
	for _, passes := range []string{"", "F", "D", "M", "U2", "F D M", "M D F", "F D M U2 F D M", "U2 U2"} {
		g, l := roomyGraph(), row(passes)
		x, m := ran(t, passes, g, l)
		want, lists := text(x), text(m)
		wipe(g)
		clear(l)
		if text(x) != want || text(m) != lists {
			t.Errorf("%s: what was given has changed it: %+v, %v", passes, x, m)
		}
		g = roomyGraph()
		before := text(g)
		x, m = ran(t, passes, g, row(passes))
		wipe(x)
		if text(g) != before || text(m) != lists {
			t.Errorf("%s: what was returned has changed %+v, %v", passes, g, m)
		}
		// What is behind the ends of the lists of what was given is nobody's.
		for _, list := range g.Points {
			if text(list[:cap(list)][len(list):]) != text(make([]int, cap(list)-len(list))) {
				t.Errorf("%s: behind the end: %v", passes, list[:cap(list)])
			}
		}
		// Lists of one result are changed one by one: no two of them share memory.
		x, m = ran(t, passes, g, row(passes))
		numbers, operations := slices.Concat(x.Points, m), [][]api.Op{}
		for _, b := range x.Blocks {
			numbers, operations = append(numbers, b.Next), append(operations, b.Ops)
		}
		apart(t, numbers, -99)
		apart(t, operations, constant(5, 5))
		if text(g) != before {
			t.Errorf("%s: lists of the result have changed %+v", passes, g)
		}
		if y, n := ran(t, passes, roomyGraph(), row(passes)); text(y) != want || text(n) != lists {
			t.Errorf("%s: again: %+v, %v", passes, y, n)
		}
	}
}

package merge

import (
	"fmt"
	"math"
	"slices"
	"strings"
	"testing"
	"timebound/api"
	"timebound/fact"
	"timebound/graph"
)

func to(l ...int) []int { return l }

func ops(l ...api.Op) []api.Op { return l }

func constant(dst, n int) api.Op { return api.Op{Kind: api.OpConst, Dst: dst, Imm: n} }

func lock(resource int) api.Op { return api.Op{Kind: api.OpLock, Imm: resource} }

func unlock(resource int) api.Op { return api.Op{Kind: api.OpUnlock, Imm: resource} }

// mark is a block with one operation, by which it is known again. It branches by the variable of its number if it has two successors.
func mark(n int, next ...int) api.Block {
	b := api.Block{Ops: ops(constant(n, n)), Next: next}
	if len(next) == 2 {
		b.Cond = n
	}
	return b
}

// with is a block with such operations and one successor, or none.
func with(list []api.Op, next ...int) api.Block { return api.Block{Ops: list, Next: next} }

// data is a graph of blocks with all that a graph has besides.
func data(l ...api.Block) api.Graph {
	return api.Graph{
		Inputs: []api.Input{{Name: "x", Lo: -10, Hi: 10}, {Name: "y", Lo: math.MinInt32, Hi: math.MaxInt32}},
		Vars:   9, Keep: 3,
		Arrays: []api.Array{{Name: "a", Size: 1}, {Name: "b", Size: 4}, {Name: "c", Size: 2}, {Name: "d", Size: 8}}, Shared: 2,
		Blocks: l,
	}
}

// text is all that a value has: nil and empty lists are the same.
func text(x any) string { return fmt.Sprintf("%+v", x) }

// show writes an operation: what only serves as a mark is a number.
func show(o api.Op) string {
	switch o {
	case constant(o.Dst, o.Dst):
		return fmt.Sprint(o.Dst)
	case lock(o.Imm):
		return fmt.Sprint("lock ", o.Imm)
	case unlock(o.Imm):
		return fmt.Sprint("unlock ", o.Imm)
	}
	return text(o)
}

// blocks writes the blocks of a graph, each one with its operations, Cond and successors.
func blocks(g api.Graph) string {
	var out []string
	for _, b := range g.Blocks {
		var l []string
		for _, o := range b.Ops {
			l = append(l, show(o))
		}
		if b.Cond != 0 || len(b.Next) > 1 {
			l = append(l, fmt.Sprint("by ", b.Cond))
		}
		if len(b.Next) > 0 {
			l = append(l, fmt.Sprint("to ", b.Next))
		}
		out = append(out, strings.Join(l, " "))
	}
	return strings.Join(out, "; ")
}

// merged joins blocks, and looks at all that is the same for all graphs: what was given has not changed, the result is valid, of what it has besides blocks only Points and Heads are other ones, each block is one that is there, and is a part of another one only if it is no head; Points go along as fact's Points says; and no block takes another one, so that doing it once more changes nothing.
func merged(t *testing.T, name string, g api.Graph) (api.Graph, [][]int) {
	t.Helper()
	before := text(g)
	x, l, e := Merge(g)
	if e != api.OK || text(g) != before || len(l) != len(g.Blocks) {
		t.Fatalf("%s: error %d, %v, %s\nbefore: %s", name, e, l, text(g), before)
	}
	if e := graph.Check(x); e != api.OK {
		t.Fatalf("%s: check %d of %s", name, e, text(x))
	}
	others := x
	others.Blocks, others.Points, others.Heads = g.Blocks, g.Points, g.Heads
	if text(others) != before || len(x.Heads) != len(g.Heads) {
		t.Fatalf("%s: %s\nnot %s", name, text(x), before)
	}
	if points, e := fact.Points(g.Points, l); e != api.OK || text(points) != text(x.Points) {
		t.Fatalf("%s: error %d, the points %v\nnot %v", name, e, x.Points, points)
	}
	for i, h := range g.Heads {
		if want := (api.Head{Block: l[h.Block][0], Max: h.Max}); x.Heads[i] != want {
			t.Fatalf("%s: the head %v, not %v", name, x.Heads[i], want)
		}
	}
	y, again, e := Merge(x)
	if e != api.OK || text(y) != text(x) || len(again) != len(x.Blocks) {
		t.Fatalf("%s: once more, error %d, %s\nnot %s", name, e, text(y), text(x))
	}
	for b, list := range again {
		if !slices.Equal(list, to(b)) {
			t.Fatalf("%s: once more, the map %v", name, again)
		}
	}
	return x, l
}

// cases are graphs by their names, with the blocks and the map that are wanted.
type cases map[string]struct {
	g      api.Graph
	blocks string
	to     string
}

func (l cases) try(t *testing.T) {
	t.Helper()
	for name, c := range l {
		if x, m := merged(t, name, c.g); blocks(x) != c.blocks || text(m) != c.to {
			t.Errorf("%s: %s, %v\nnot %s, %s", name, blocks(x), m, c.blocks, c.to)
		}
	}
}

// P16.1: which blocks are joined, and what becomes of them

// TestChains has blocks of which each one always follows another one.
func TestChains(t *testing.T) {
	cases{
		"one":                {data(mark(1)), "1", "[[0]]"},
		"two":                {data(mark(1, 1), mark(2)), "1 2", "[[0] [0]]"},
		"three":              {data(mark(1, 1), mark(2, 2), mark(3)), "1 2 3", "[[0] [0] [0]]"},
		"in another row":     {data(mark(1, 2), mark(2), mark(3, 1)), "1 3 2", "[[0] [0] [0]]"},
		"backwards":          {data(mark(1, 4), mark(2), mark(3, 1), mark(4, 2), mark(5, 3)), "1 5 4 3 2", "[[0] [0] [0] [0] [0]]"},
		"to and fro":         {data(mark(1, 3), mark(2, 4), mark(3), mark(4, 1), mark(5, 2)), "1 4 2 5 3", "[[0] [0] [0] [0] [0]]"},
		"three empty ones":   {data(with(nil, 1), with(nil, 2), with(nil)), "", "[[0] [0] [0]]"},
		"the first is empty": {data(with(nil, 1), mark(1)), "1", "[[0] [0]]"},
		"the last is empty":  {data(mark(1, 1), with(nil)), "1", "[[0] [0]]"},
		"many operations":    {data(with(ops(constant(3, 3), constant(1, 1)), 1), with(ops(constant(4, 4), constant(1, 1), constant(5, 5)))), "3 1 4 1 5", "[[0] [0]]"},
		"to a branch":        {data(mark(1, 1), mark(2, 3, 2), mark(3, 3), mark(4)), "1 2 by 2 to [2 1]; 3 to [2]; 4", "[[0] [0] [1] [2]]"},
		"by variable 0":      {data(mark(1, 1), api.Block{Next: to(3, 2)}, mark(3, 3), mark(4)), "1 by 0 to [2 1]; 3 to [2]; 4", "[[0] [0] [1] [2]]"},
		"behind a branch":    {data(mark(1, 1, 2), mark(2, 3), mark(3, 3), mark(4, 4), mark(5)), "1 by 1 to [1 2]; 2 to [3]; 3 to [3]; 4 5", "[[0] [1] [2] [3] [3]]"},
		"on both ways":       {data(mark(1, 4, 1), mark(2, 3), mark(3), mark(4, 2), mark(5, 2)), "1 by 1 to [3 1]; 2 4 to [2]; 3; 5 to [2]", "[[0] [1] [2] [1] [3]]"},
		"on one way":         {data(mark(1, 4, 1), mark(2, 3), mark(3), mark(4, 2), mark(5, 5), mark(6, 2)), "1 by 1 to [3 1]; 2 4 to [2]; 3; 5 6 to [2]", "[[0] [1] [2] [1] [3] [3]]"},
		"in a loop":          {data(mark(1, 1), mark(2, 2, 5), mark(3, 3), mark(4, 4), mark(5, 1), mark(6)), "1 to [1]; 2 by 2 to [2 3]; 3 4 5 to [1]; 6", "[[0] [1] [2] [2] [2] [3]]"},
		"into its own loop":  {data(mark(1, 1), mark(2, 2), mark(3, 1, 3), mark(4)), "1 to [1]; 2 3 by 3 to [1 2]; 4", "[[0] [1] [1] [2]]"},
		"the end of a loop":  {data(mark(1, 2), mark(2), mark(3, 3, 4), mark(4, 2), mark(5, 1)), "1 to [1]; 3 by 3 to [2 3]; 4 to [1]; 5 2", "[[0] [3] [1] [2] [3]]"},
	}.try(t)
}

// TestApart has blocks that stay two because of one condition, beside ones for which it does not apply.
func TestApart(t *testing.T) {
	head := func(b int) api.Graph {
		g := data(mark(1, 1), mark(2, 2), mark(3))
		g.Heads = []api.Head{{Block: b, Max: 5}}
		return g
	}
	cases{
		"two successors":               {data(mark(1, 1, 2), mark(2, 2), mark(3)), "1 by 1 to [1 2]; 2 to [2]; 3", "[[0] [1] [2]]"},
		"the first of two":             {data(mark(1, 1, 2), mark(2), mark(3, 2)), "1 by 1 to [1 2]; 2; 3 to [2]", "[[0] [1] [2]]"},
		"two before":                   {data(mark(1, 1, 2), mark(2, 3), mark(3, 3), mark(4)), "1 by 1 to [1 2]; 2 to [3]; 3 to [3]; 4", "[[0] [1] [2] [3]]"},
		"two before, one in vain":      {data(mark(1, 2), mark(2, 2), mark(3)), "1 to [2]; 2 to [2]; 3", "[[0] [1] [2]]"},
		"two before, a cycle":          {data(mark(1, 3), mark(2, 2), mark(3, 1, 3), mark(4)), "1 to [2]; 2 3 by 3 to [1 2]; 4", "[[0] [1] [1] [2]]"},
		"itself":                       {data(mark(1, 2), mark(2, 1), mark(3)), "1 3; 2 to [1]", "[[0] [1] [0]]"},
		"a cycle of two":               {data(mark(1, 3), mark(2, 2), mark(3, 1), mark(4)), "1 4; 2 3 to [1]", "[[0] [1] [1] [0]]"},
		"a cycle of three":             {data(mark(1), mark(2, 3), mark(3, 1), mark(4, 2)), "1; 2 4 3 to [1]", "[[0] [1] [1] [1]]"},
		"itself, reached":              {data(mark(1, 1), mark(2, 1), mark(3)), "1 to [1]; 2 to [1]; 3", "[[0] [1] [2]]"},
		"itself, before the end":       {data(mark(1, 1), mark(2, 1, 2), mark(3)), "1 to [1]; 2 by 2 to [1 2]; 3", "[[0] [1] [2]]"},
		"not reached":                  {data(mark(1), mark(2, 2), mark(3, 3), mark(4, 3)), "1; 2 3 to [2]; 4 to [2]", "[[0] [1] [1] [2]]"},
		"an unlock":                    {data(with(ops(constant(1, 1), unlock(2)), 1), mark(2)), "1 unlock 2 to [1]; 2", "[[0] [1]]"},
		"an unlock alone":              {data(with(ops(unlock(0)), 1), with(nil)), "unlock 0 to [1]; ", "[[0] [1]]"},
		"an unlock, and a lock":        {data(with(ops(lock(0), unlock(0)), 1), with(ops(lock(0), unlock(0)))), "lock 0 unlock 0 to [1]; lock 0 unlock 0", "[[0] [1]]"},
		"to an unlock":                 {data(mark(1, 1), with(ops(unlock(2)), 2), mark(3)), "1 unlock 2 to [1]; 3", "[[0] [0] [1]]"},
		"from nothing to an unlock":    {data(with(nil, 1), with(ops(unlock(2)))), "unlock 2", "[[0] [0]]"},
		"a lock":                       {data(mark(1, 1), with(ops(lock(3), constant(2, 2)))), "1 to [1]; lock 3 2", "[[0] [1]]"},
		"a lock alone":                 {data(with(nil, 1), with(ops(lock(0)))), "to [1]; lock 0", "[[0] [1]]"},
		"from a lock":                  {data(with(ops(lock(3)), 1), mark(2)), "lock 3 2", "[[0] [0]]"},
		"from a lock to an unlock":     {data(with(ops(lock(3)), 1), mark(2, 2), with(ops(unlock(1)))), "lock 3 2 unlock 1", "[[0] [0] [0]]"},
		"sections, one after other":    {data(mark(1, 1), with(ops(lock(3)), 2), with(ops(unlock(3)), 3), with(ops(lock(3)), 4), with(ops(unlock(3)), 5), mark(6)), "1 to [1]; lock 3 unlock 3 to [2]; lock 3 unlock 3 to [3]; 6", "[[0] [1] [1] [2] [2] [3]]"},
		"from nothing, from an end":    {data(with(ops(unlock(1)), 1), with(nil, 2), with(ops(lock(1)))), "unlock 1 to [1]; to [2]; lock 1", "[[0] [1] [2]]"},
		"a head is followed":           {head(0), "1 2 3", "[[0] [0] [0]]"},
		"a head follows":               {head(1), "1 to [1]; 2 3", "[[0] [1] [1]]"},
		"a head follows at last":       {head(2), "1 2 to [1]; 3", "[[0] [0] [1]]"},
		"itself, behind what is taken": {data(mark(1, 2), mark(2, 1), mark(3, 4), mark(4), mark(5, 3)), "1 3 5 4; 2 to [1]", "[[0] [1] [0] [0] [0]]"},
	}.try(t)
}

// TestPoints has lists of points that keep blocks apart, and others.
func TestPoints(t *testing.T) {
	row := []api.Block{mark(1, 1), mark(2, 2), mark(3)}
	// Here 0 leads to 3, 3 to 2, and 2 to 1, the end.
	back := []api.Block{mark(1, 3), mark(2), mark(3, 1), mark(4, 2)}
	for name, c := range map[string]struct {
		list   []api.Block
		points [][]int
		blocks string
		want   string
	}{
		"none":                     {row, nil, "1 2 3", "[]"},
		"empty ones":               {row, [][]int{nil, {}}, "1 2 3", "[[] []]"},
		"one each":                 {row, [][]int{{2}, {0}, {1}, {0}}, "1 2 3", "[[0] [0] [0] [0]]"},
		"the first two":            {row, [][]int{{0, 1}}, "1 to [1]; 2 3", "[[0 1]]"},
		"the first two, backwards": {row, [][]int{{1, 0}}, "1 to [1]; 2 3", "[[1 0]]"},
		"the last two":             {row, [][]int{{2}, {1, 2}}, "1 2 to [1]; 3", "[[1] [0 1]]"},
		"all":                      {row, [][]int{{2, 0, 1}, {1}}, "1 to [1]; 2 to [2]; 3", "[[2 0 1] [1]]"},
		"two lists":                {row, [][]int{{0, 1}, {}, {2, 1}}, "1 to [1]; 2 to [2]; 3", "[[0 1] [] [2 1]]"},
		// A block is in a list as soon as a part of it is.
		"the first and the last": {row, [][]int{{0, 2}}, "1 2 to [1]; 3", "[[0 1]]"},
		"the last and the first": {row, [][]int{{2, 0}, {1}}, "1 2 to [1]; 3", "[[1 0] [0]]"},
		"with what is taken":     {back, [][]int{{3, 1}}, "1 4 3 to [1]; 2", "[[0 1]]"},
		"with what is next":      {back, [][]int{{2, 3}}, "1 4 to [1]; 3 2", "[[1 0]]"},
		"then another one takes": {back, [][]int{{0, 2}}, "1 4 to [1]; 3 2", "[[0 1]]"},
		"one of three lists":     {back, [][]int{{2}, {0, 1}, {3}}, "1 4 3 to [1]; 2", "[[0] [0 1] [0]]"},
		"two of three lists":     {back, [][]int{{1, 0}, {2}, {2, 0}}, "1 4 to [1]; 3 2", "[[1 0] [1] [1 0]]"},
	} {
		g := data(c.list...)
		g.Points = c.points
		if x, _ := merged(t, name, g); blocks(x) != c.blocks || text(x.Points) != c.want {
			t.Errorf("%s: %s, %v\nnot %s, %s", name, blocks(x), x.Points, c.blocks, c.want)
		}
	}
}

// TestTheLeastFirst has three blocks, the first and the last of which a list keeps apart: the one between them becomes a part of the last one if it is less than the first one.
func TestTheLeastFirst(t *testing.T) {
	for _, c := range []struct {
		first, between, last int
		blocks, points       string
	}{
		{1, 2, 3, "9 to [1]; 1 2 to [2]; 3", "[[1 2]]"},
		{1, 3, 2, "9 to [1]; 1 2 to [2]; 3", "[[1 2]]"},
		{2, 3, 1, "9 to [2]; 3; 1 2 to [1]", "[[2 1]]"},
		{2, 1, 3, "9 to [2]; 2 3; 1 to [1]", "[[2 1]]"},
		{3, 1, 2, "9 to [2]; 2 3; 1 to [1]", "[[2 1]]"},
		{3, 2, 1, "9 to [2]; 2 3; 1 to [1]", "[[2 1]]"},
	} {
		list := make([]api.Block, 4)
		list[0], list[c.first], list[c.between], list[c.last] = mark(9, c.first), mark(1, c.between), mark(2, c.last), mark(3)
		g := data(list...)
		g.Vars = 10
		g.Points, g.Heads = [][]int{{c.first, c.last}}, []api.Head{{Block: c.first, Max: 5}}
		if x, _ := merged(t, "the least", g); blocks(x) != c.blocks || text(x.Points) != c.points {
			t.Errorf("%+v: %s, %v", c, blocks(x), x.Points)
		}
	}
}

// TestMovingUp has points, heads and successors before, behind and at blocks that are left out.
func TestMovingUp(t *testing.T) {
	g := data(
		mark(1, 5), mark(2, 6, 3), mark(3, 7), mark(4, 2), mark(5, 1), mark(6, 4), mark(7, 1), mark(8))
	g.Points = [][]int{{0}, {1}, {2}, {3}, {4}, {5}, {6}, {7}, nil, {7, 1, 0}, {1, 4}, {6, 5, 3}}
	g.Heads = []api.Head{{Block: 0, Max: 9}, {Block: 1, Max: 0}, {Block: 3, Max: 4000}, {Block: 6, Max: 7}}
	x, l := merged(t, "moving up", g)
	if got := blocks(x); got != "1 6 5 to [1]; 2 by 2 to [3 2]; 4 3 8; 7 to [1]" || text(l) != "[[0] [1] [2] [2] [0] [0] [3] [2]]" {
		t.Errorf("%s, %v", got, l)
	}
	if got := text(x.Points); got != "[[0] [1] [2] [2] [0] [0] [3] [2] [] [2 1 0] [1 0] [3 0 2]]" {
		t.Error(got)
	}
	if got := text(x.Heads); got != "[{Block:0 Max:9} {Block:1 Max:0} {Block:2 Max:4000} {Block:3 Max:7}]" {
		t.Error(got)
	}
	x, _ = merged(t, "data", data(mark(1, 1), mark(2)))
	if text(x.Inputs) != "[{Name:x Lo:-10 Hi:10} {Name:y Lo:-2147483648 Hi:2147483647}]" || x.Vars != 9 || x.Keep != 3 ||
		text(x.Arrays) != "[{Name:a Size:1} {Name:b Size:4} {Name:c Size:2} {Name:d Size:8}]" || x.Shared != 2 {
		t.Errorf("%+v", x)
	}
}

// TestOperationsStay has operations of all kinds, in three blocks: they are what they were, in the same order.
func TestOperationsStay(t *testing.T) {
	all := ops(lock(3), api.Op{Kind: api.OpLoad, Dst: 4, A: 5, Imm: 1}, api.Op{Kind: api.OpCopy, Dst: 4, A: 5}, constant(3, math.MinInt32), constant(3, 7), constant(3, 7),
		api.Op{Kind: api.OpStore, A: 5, B: 4, Imm: 1}, api.Op{Kind: api.OpBin, Dst: 6, A: 7, B: 8, Imm: api.Ne}, unlock(2))
	for m := 1; m < len(all); m++ {
		for n := m; n < len(all); n++ {
			x, _ := merged(t, "all", data(with(all[:m], 2), with(all[n:]), with(all[m:n], 1)))
			if len(x.Blocks) != 1 || !slices.Equal(x.Blocks[0].Ops, all) {
				t.Errorf("%d and %d: %s", m, n, blocks(x))
			}
		}
	}
}

// chain is a graph that is as large as a graph can be: its blocks follow one another in steps. Each third point has a block.
func chain(step int) api.Graph {
	g := api.Graph{Inputs: make([]api.Input, 64), Vars: 64, Keep: 64, Arrays: slices.Repeat([]api.Array{{Size: 16}}, 8), Shared: 8}
	g.Blocks, g.Points = make([]api.Block, 64), make([][]int, 39)
	for n := range 64 {
		b := n * step & 63
		g.Blocks[b] = with(slices.Repeat(ops(constant(n, n)), 9), (b+step)&63)
	}
	g.Blocks[64-step] = with(slices.Repeat(ops(constant(63, 63)), 33))
	for p := 0; p < 39; p += 3 {
		g.Points[p] = to(p + 25)
	}
	return g
}

// TestTheLeastAndTheGreatest has the least graph, and some that are as large as a graph can be.
func TestTheLeastAndTheGreatest(t *testing.T) {
	for _, g := range []api.Graph{
		{Blocks: []api.Block{{}}},
		{Inputs: []api.Input{}, Arrays: []api.Array{}, Points: [][]int{}, Heads: []api.Head{}, Blocks: []api.Block{{Ops: []api.Op{}, Next: []int{}}}},
	} {
		if x, l := merged(t, "the least", g); text(x) != text(g) || text(l) != "[[0]]" {
			t.Errorf("%+v, %v", x, l)
		}
	}
	var all []api.Op
	for n := range 64 {
		all = append(all, slices.Repeat(ops(constant(n, n)), 9)...)
	}
	all = append(all, slices.Repeat(ops(constant(63, 63)), 24)...)
	for step := 1; step < 64; step += 2 {
		g := chain(step)
		x, l := merged(t, "a chain", g)
		if len(x.Blocks) != 1 || !slices.Equal(x.Blocks[0].Ops, all) || text(l) != text(slices.Repeat([][]int{{0}}, 64)) || len(x.Points) != 39 {
			t.Errorf("by %d: %s, %v", step, blocks(x), l)
		}
		// Lists with all blocks keep all of them apart, and so do heads.
		for p := range g.Points {
			g.Points[p] = nil
			for b := range g.Blocks {
				g.Points[p] = append(g.Points[p], (b+p)&63)
			}
		}
		if x, l := merged(t, "points", g); text(x) != text(g) || len(l) != 64 {
			t.Errorf("by %d: %s, %v", step, blocks(x), l)
		}
		g.Points = nil
		for b := range g.Blocks {
			g.Heads = append(g.Heads, api.Head{Block: b, Max: 4000})
		}
		if x, l := merged(t, "heads", g); text(x) != text(g) || len(l) != 64 {
			t.Errorf("by %d: %s, %v", step, blocks(x), l)
		}
	}
}

// P16.1: errors

func TestErrors(t *testing.T) {
	for want, graphs := range map[api.Errno]map[string]api.Graph{
		api.ErrForm: {
			"nothing":              {},
			"two ends":             data(mark(1), mark(2)),
			"no end":               data(mark(1, 1), mark(2, 1)),
			"back to the first":    data(mark(1, 0, 1), mark(2)),
			"no successor":         data(mark(1, 2), mark(2)),
			"below the successors": data(mark(1, -1), mark(2)),
			"wrong, not reached":   data(mark(1, 2), mark(2, 3), mark(3)),
			"twice the same":       data(mark(1, 1, 1), mark(2)),
			"three successors":     data(mark(1, 1, 2, 3), mark(2, 2), mark(3, 3), mark(4)),
			"no variable":          data(mark(1, 1), mark(9)),
			"a condition alone":    data(api.Block{Cond: 1, Next: to(1)}, mark(2)),
			"no kind":              data(with(ops(api.Op{Kind: 8}), 1), mark(2)),
			// These would be wrong as one block, too, and others only as two.
			"a lock behind":         data(with(ops(constant(1, 1), lock(0)), 1), mark(2)),
			"an unlock in front":    data(mark(1, 1), with(ops(unlock(0), constant(2, 2)))),
			"an unlock in between":  data(mark(1, 1), with(ops(unlock(0), constant(2, 2)), 2), mark(3)),
			"a point":               {Blocks: []api.Block{{Next: to(1)}, {}}, Points: [][]int{{2}}},
			"a point twice":         {Blocks: []api.Block{{Next: to(1)}, {}}, Points: [][]int{{0}, {1, 1}}},
			"a head":                {Blocks: []api.Block{{Next: to(1)}, {}}, Heads: []api.Head{{Block: 2}}},
			"a head below":          {Blocks: []api.Block{{Next: to(1)}, {}}, Heads: []api.Head{{Block: -1}}},
			"heads in another row":  {Blocks: []api.Block{{Next: to(1)}, {}}, Heads: []api.Head{{Block: 1}, {Block: 0}}},
			"more are kept":         {Vars: 1, Keep: 2, Blocks: []api.Block{{}}},
			"less than no variable": {Vars: -1, Keep: -1, Blocks: []api.Block{{}}},
			"no size":               {Blocks: []api.Block{{}}, Arrays: []api.Array{{}}},
			"no range":              {Vars: 1, Keep: 1, Inputs: []api.Input{{Lo: 1}}, Blocks: []api.Block{{}}},
		},
		api.ErrLimit: {
			"variables":         {Vars: 65, Blocks: []api.Block{{Next: to(1)}}},
			"variables alone":   {Vars: 65, Blocks: []api.Block{{}}},
			"blocks":            {Blocks: make([]api.Block, 65)},
			"blocks in a row":   {Blocks: append(chain(1).Blocks[:63:63], mark(1, 64), mark(2)), Vars: 64},
			"operations":        {Vars: 1, Blocks: []api.Block{{Ops: slices.Repeat(ops(constant(0, 0)), 601)}}},
			"operations of two": {Vars: 1, Blocks: []api.Block{{Ops: slices.Repeat(ops(constant(0, 0)), 600), Next: to(1)}, {Ops: ops(constant(0, 0))}}},
			"arrays":            {Arrays: make([]api.Array, 9), Blocks: []api.Block{{}}},
			"points":            {Points: slices.Repeat([][]int{{1}}, 40), Blocks: []api.Block{{}}},
		},
	} {
		for name, g := range graphs {
			before := text(g)
			x, l, e := Merge(g)
			if e != want || e != graph.Check(g) || text(x) != text(api.Graph{}) || len(l) != 0 || text(g) != before {
				t.Errorf("%s: error %d, not %d, %+v, %v", name, e, want, x, l)
			}
		}
	}
}

// R3: memory

// wipe changes all that lists of a graph have, and writes behind their ends.
func wipe(g api.Graph) {
	lists := g.Points
	for b, block := range g.Blocks {
		clear(block.Ops)
		_ = append(block.Ops, constant(5, 5))
		lists, g.Blocks[b] = append(lists, block.Next), api.Block{}
	}
	for _, l := range lists {
		clear(l)
		_ = append(l, -99)
	}
	clear(g.Inputs)
	clear(g.Arrays)
	clear(g.Points)
	clear(g.Heads)
}

// TestResultsAreNew changes what was given and what was returned: nothing else changes. Head by head, other blocks are joined, or none.
func TestResultsAreNew(t *testing.T) {
	for heads := range 16 {
		given := func() api.Graph {
			// All lists have room behind their ends.
			g := data(mark(1, 1), mark(2, 2), mark(3, 4), mark(4), mark(5, 3))
			g.Points, g.Heads = make([][]int, 3, 9), make([]api.Head, 0, 9)
			for b := range g.Blocks {
				g.Blocks[b].Ops = append(make([]api.Op, 0, 9), g.Blocks[b].Ops...)
				g.Blocks[b].Next = append(make([]int, 0, 9), g.Blocks[b].Next...)
				g.Points[b%3] = append(g.Points[b%3], b)
				if b > 0 && heads>>(b-1)&1 != 0 {
					g.Heads = append(g.Heads, api.Head{Block: b, Max: 7})
				}
			}
			return g
		}
		g := given()
		x, l, _ := Merge(g)
		want, lists := text(x), text(l)
		wipe(g)
		if text(x) != want || text(l) != lists {
			t.Errorf("what was given has changed it: %+v, %v", x, l)
		}
		g = given()
		before := text(g)
		x, l, _ = Merge(g)
		wipe(x)
		if text(g) != before || text(l) != lists {
			t.Errorf("what was returned has changed %+v, %v", g, l)
		}
		// Lists of one result are changed one by one: what is behind an end is no other list's.
		x, l, _ = Merge(g)
		parts := slices.Concat(x.Points, l)
		for _, b := range x.Blocks {
			parts = append(parts, b.Next)
			_ = append(b.Ops, constant(5, 5))
		}
		if text(x) != want {
			t.Errorf("operations have changed it: %+v", x)
		}
		for i, list := range parts {
			others := text([]any{parts[:i], parts[i+1:]})
			for n := range list {
				list[n] = -99
			}
			_ = append(list, -99)
			if text([]any{parts[:i], parts[i+1:]}) != others || text(g) != before {
				t.Errorf("the list %d has changed others", i)
			}
		}
		if y, m, e := Merge(given()); e != api.OK || text(y) != want || text(m) != lists {
			t.Errorf("again: error %d, %+v, %v", e, y, m)
		}
	}
}

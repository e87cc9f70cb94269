package dead

import (
	"slices"
	"testing"
	"timebound/api"
	"timebound/graph"
)

// cleared leaves out what is not needed, and looks at all that is the same for all graphs: what was given has not changed, the result is valid, of what it has besides blocks only Points and Heads are other ones, the map has a list for each block, and doing it once more changes nothing.
func cleared(t *testing.T, name string, g api.Graph) (api.Graph, [][]int) {
	t.Helper()
	before := text(g)
	x, l, e := Dead(g)
	if e != api.OK || text(g) != before || len(l) != len(g.Blocks) {
		t.Fatalf("%s: error %d, %v, %s\nbefore: %s", name, e, l, text(g), before)
	}
	if e := graph.Check(x); e != api.OK {
		t.Fatalf("%s: check %d of %s", name, e, text(x))
	}
	others := x
	others.Blocks, others.Points, others.Heads = g.Blocks, g.Points, g.Heads
	if text(others) != before || len(x.Points) != len(g.Points) {
		t.Fatalf("%s: %s\nnot %s", name, text(x), before)
	}
	y, again, e := Dead(x)
	if e != api.OK || text(y) != text(x) || len(again) != len(x.Blocks) {
		t.Fatalf("%s: once more, error %d, %s\nnot %s", name, e, text(y), text(x))
	}
	for b, list := range again {
		if !slices.Equal(list, to(b)) {
			t.Fatalf("%s: once more, the map %v", name, again)
		}
	}
	return x, l
}

// P15.2: operations

// TestOperations has blocks by themselves, with the variables 0 to 5, of which 0 to 2 are kept.
func TestOperations(t *testing.T) {
	for name, table := range map[string][]struct {
		ops  []api.Op
		want string
	}{
		"results that nobody uses": {
			{nil, ""},
			{ops(constant(3, 7)), ""},
			{ops(move(3, 0)), ""},
			{ops(move(3, 3)), ""},
			{ops(bin(3, 0, api.Add, 1)), ""},
			{ops(bin(3, 3, api.Add, 3)), ""},
			{ops(bin(3, 0, api.Div, 1)), ""},
			{ops(load(3, 1, 0)), ""},
			{ops(load(5, 3, 5)), ""},
			{ops(constant(5, 7), constant(4, 6)), ""},
		},
		"results that are kept": {
			{ops(constant(0, 7)), "0=#7"},
			{ops(constant(2, 7)), "2=#7"},
			{ops(move(2, 3)), "2=3"},
			{ops(bin(1, 0, api.Add, 1)), "1=0+1"},
			{ops(load(1, 1, 0)), "1=a1[0]"},
			// What an operation does not change is not looked for.
			{ops(move(2, 2)), "2=2"},
			{ops(constant(2, 0)), "2=#0"},
			{ops(constant(2, 1), constant(1, 1), move(1, 2)), "2=#1 1=2"},
		},
		"results that are changed before they are used": {
			{ops(constant(0, 1), constant(0, 2)), "0=#2"},
			{ops(constant(0, 1), constant(0, 1)), "0=#1"},
			{ops(constant(0, 1), move(0, 3)), "0=3"},
			{ops(constant(0, 1), load(0, 1, 4)), "0=a1[4]"},
			{ops(constant(0, 1), bin(0, 3, api.Sub, 4)), "0=3-4"},
			{ops(move(0, 3), bin(1, 0, api.Sub, 4), constant(0, 2)), "0=3 1=0-4 0=#2"},
			{ops(load(0, 0, 3), constant(1, 2), constant(0, 2)), "1=#2 0=#2"},
			{ops(constant(3, 1), constant(3, 2), move(0, 3)), "3=#2 0=3"},
			{ops(constant(3, 1), move(0, 3), constant(3, 2)), "3=#1 0=3"},
		},
		"operands": {
			{ops(constant(3, 1), move(0, 3)), "3=#1 0=3"},
			{ops(constant(3, 1), load(0, 2, 3)), "3=#1 0=a2[3]"},
			{ops(constant(3, 1), bin(0, 3, api.Sub, 1)), "3=#1 0=3-1"},
			{ops(constant(3, 1), bin(0, 1, api.Sub, 3)), "3=#1 0=1-3"},
			{ops(constant(3, 1), constant(4, 2), bin(0, 4, api.Sub, 3)), "3=#1 4=#2 0=4-3"},
			{ops(constant(3, 1), store(2, 3, 1)), "3=#1 a2[3]=1"},
			{ops(constant(3, 1), store(2, 1, 3)), "3=#1 a2[1]=3"},
			{ops(constant(0, 1), bin(0, 0, api.Add, 0)), "0=#1 0=0+0"},
			{ops(constant(0, 1), move(0, 0)), "0=#1 0=0"},
			{ops(constant(0, 1), load(0, 1, 0)), "0=#1 0=a1[0]"},
			{ops(load(3, 1, 0), load(4, 1, 3), store(1, 4, 3)), "3=a1[0] 4=a1[3] a1[4]=3"},
		},
		"operands of what is left out": {
			{ops(constant(3, 1), move(4, 3)), ""},
			{ops(constant(3, 1), load(4, 1, 3)), ""},
			{ops(constant(3, 1), bin(4, 3, api.Sub, 3)), ""},
			{ops(constant(3, 1), bin(3, 3, api.Add, 3), bin(3, 3, api.Add, 3)), ""},
			{ops(constant(3, 1), move(4, 3), move(5, 4), move(3, 5)), ""},
			{ops(constant(3, 1), move(4, 3), move(5, 4), move(0, 3)), "3=#1 0=3"},
			{ops(constant(0, 1), move(1, 0), constant(1, 2), constant(0, 3)), "1=#2 0=#3"},
			{ops(constant(3, 1), move(0, 3), move(0, 4)), "0=4"},
		},
		"what is no result": {
			{ops(store(1, 3, 4)), "a1[3]=4"},
			{ops(store(0, 0, 0)), "a0[0]=0"},
			{ops(store(1, 3, 4), store(1, 3, 4)), "a1[3]=4 a1[3]=4"},
			{ops(store(1, 3, 4), constant(3, 1)), "a1[3]=4"},
			{ops(lock(1)), "lock 1"},
			{ops(unlock(1)), "unlock 1"},
			{ops(lock(3), unlock(3)), "lock 3 unlock 3"},
			{ops(lock(3), constant(4, 1), unlock(3)), "lock 3 unlock 3"},
			{ops(lock(3), constant(4, 1), store(0, 0, 4), constant(4, 1), unlock(3)), "lock 3 4=#1 a0[0]=4 unlock 3"},
		},
		"what is no variable": {
			// No Dst is the variable 0.
			{ops(constant(0, 1), store(1, 3, 4)), "0=#1 a1[3]=4"},
			{ops(constant(0, 1), unlock(0)), "0=#1 unlock 0"},
			// Words, operators, arrays and resources are no operands, whatever their numbers are.
			{ops(constant(3, 1), constant(4, 1), constant(0, 3), bin(1, 1, api.Mul, 2), unlock(3)), "0=#3 1=1*2 unlock 3"},
			{ops(constant(3, 1), load(0, 3, 1), store(3, 1, 2)), "0=a3[1] a3[1]=2"},
			{ops(lock(3), constant(3, 1)), "lock 3"},
		},
	} {
		for _, c := range table {
			x, l := cleared(t, name, data(api.Block{Ops: c.ops}))
			if blocks(x) != c.want || text(l) != "[[0]]" {
				t.Errorf("%s: %s, %v\nnot %s", name, blocks(x), l, c.want)
			}
		}
	}
}

// TestVariableZero has a graph that keeps nothing: fields that are 0 are no operands.
func TestVariableZero(t *testing.T) {
	for _, o := range []api.Op{store(1, 3, 4), unlock(0), constant(3, 0), move(3, 4), load(3, 0, 4)} {
		list := ops(constant(0, 1), o)
		want := list[1:]
		if o.Dst == 3 {
			list = append(list, store(1, 3, 4))
			want = list[1:]
		}
		x, _ := cleared(t, "0", keeping(0, api.Block{Ops: list, Next: to(1)}, api.Block{}))
		if !slices.Equal(x.Blocks[0].Ops, want) {
			t.Errorf("%s, not %v", blocks(x), want)
		}
	}
}

// TestKept has all variables changed at the end: those stay that are kept.
func TestKept(t *testing.T) {
	var list []api.Op
	for v := range 64 {
		list = append(list, constant(v, v+1))
	}
	for keep := range 65 {
		for _, g := range []api.Graph{
			{Vars: 64, Keep: keep, Blocks: []api.Block{{Ops: list}}},
			{Vars: 64, Keep: keep, Blocks: []api.Block{{Ops: list, Next: to(1)}, {}}},
			{Vars: 64, Keep: keep, Blocks: []api.Block{{Next: to(2)}, {}, {Ops: list, Cond: 63, Next: to(3, 1)}, {Ops: ops(constant(63, 1)), Next: to(1)}}},
		} {
			x, _ := cleared(t, "kept", g)
			n := 0
			for _, b := range x.Blocks {
				n += len(b.Ops)
			}
			want := keep
			if len(g.Blocks) == 4 {
				want = min(keep, 63) + 1 + max(keep-63, 0)
			}
			if n != want {
				t.Errorf("%d are kept: %s", keep, blocks(x))
			}
		}
	}
}

// P15.2: operations of several blocks

func TestOperationsOfBlocks(t *testing.T) {
	for name, c := range map[string]struct {
		blocks []api.Block
		want   string
	}{
		"used in the next block":  {[]api.Block{{Ops: ops(constant(3, 1)), Next: to(1)}, {Ops: ops(move(0, 3))}}, "3=#1 to [1]; 0=3"},
		"used later":              {[]api.Block{{Ops: ops(constant(3, 1)), Next: to(2)}, {Ops: ops(move(0, 3))}, {Next: to(1)}}, "3=#1 to [2]; 0=3; to [1]"},
		"changed later":           {[]api.Block{{Ops: ops(constant(3, 1)), Next: to(1)}, {Ops: ops(constant(3, 2), move(0, 3))}}, "to [1]; 3=#2 0=3"},
		"kept, changed later":     {[]api.Block{{Ops: ops(constant(0, 1), constant(1, 1)), Next: to(1)}, {Ops: ops(constant(1, 2))}}, "0=#1 to [1]; 1=#2"},
		"a condition":             {[]api.Block{{Ops: ops(constant(3, 1), constant(4, 1)), Cond: 3, Next: to(1, 2)}, {Next: to(2)}, {}}, "3=#1 by 3 to [1 2]; to [2]; "},
		"the condition 0":         {[]api.Block{{Ops: ops(move(0, 4)), Cond: 0, Next: to(1, 2)}, {Next: to(2)}, {Ops: ops(constant(0, 3))}}, "0=4 by 0 to [1 2]; to [2]; 0=#3"},
		"no condition":            {[]api.Block{{Ops: ops(move(0, 4)), Next: to(1)}, {Next: to(2)}, {Ops: ops(constant(0, 3))}}, "to [1]; to [2]; 0=#3"},
		"a condition behind":      {[]api.Block{{Ops: ops(constant(3, 1)), Next: to(1)}, {Cond: 3, Next: to(2, 3)}, {Next: to(3)}, {}}, "3=#1 to [1]; by 3 to [2 3]; to [3]; "},
		"behind its condition":    {[]api.Block{{Cond: 3, Next: to(1, 2)}, {Ops: ops(constant(3, 1)), Next: to(2)}, {}}, "by 3 to [1 2]; to [2]; "},
		"used on one way":         {[]api.Block{{Ops: ops(constant(3, 1)), Cond: 0, Next: to(1, 2)}, {Ops: ops(move(0, 3)), Next: to(2)}, {}}, "3=#1 by 0 to [1 2]; 0=3 to [2]; "},
		"used on the other way":   {[]api.Block{{Ops: ops(constant(3, 1)), Cond: 0, Next: to(2, 1)}, {Ops: ops(move(0, 3)), Next: to(2)}, {}}, "3=#1 by 0 to [2 1]; 0=3 to [2]; "},
		"changed on both ways":    {[]api.Block{{Ops: ops(constant(1, 1)), Cond: 0, Next: to(1, 2)}, {Ops: ops(constant(1, 2)), Next: to(3)}, {Ops: ops(constant(1, 3)), Next: to(3)}, {}}, "by 0 to [1 2]; 1=#2 to [3]; 1=#3 to [3]; "},
		"changed on one way":      {[]api.Block{{Ops: ops(constant(1, 1)), Cond: 0, Next: to(1, 2)}, {Ops: ops(constant(1, 2)), Next: to(2)}, {}}, "1=#1 by 0 to [1 2]; 1=#2 to [2]; "},
		"used by what goes":       {[]api.Block{{Ops: ops(constant(3, 1)), Next: to(1)}, {Ops: ops(move(4, 3)), Next: to(2)}, {Ops: ops(load(5, 0, 4))}}, "to [1]; to [2]; "},
		"by what goes, backwards": {[]api.Block{{Next: to(3)}, {Ops: ops(load(5, 0, 4))}, {Ops: ops(move(4, 3)), Next: to(1)}, {Ops: ops(constant(3, 1)), Next: to(2)}}, "to [3]; ; to [1]; to [2]"},
		"from round to round":     {[]api.Block{{Next: to(1)}, {Ops: ops(store(0, 0, 3), constant(3, 1)), Cond: 0, Next: to(1, 2)}, {}}, "to [1]; a0[0]=3 3=#1 by 0 to [1 2]; "},
		"not before the loop":     {[]api.Block{{Ops: ops(constant(3, 1)), Next: to(1)}, {Ops: ops(constant(3, 2), store(0, 0, 3)), Cond: 0, Next: to(1, 2)}, {}}, "to [1]; 3=#2 a0[0]=3 by 0 to [1 2]; "},
		// Nobody looks at this counter but it itself: its constant goes only if the sum does.
		"a counter":               {[]api.Block{{Ops: ops(constant(3, 0)), Next: to(1)}, {Ops: ops(constant(4, 1), bin(3, 3, api.Add, 4)), Cond: 0, Next: to(1, 2)}, {}}, "3=#0 to [1]; 4=#1 3=3+4 by 0 to [1 2]; "},
		"a counter without sums":  {[]api.Block{{Ops: ops(constant(3, 0)), Next: to(1)}, {Ops: ops(constant(4, 1)), Cond: 0, Next: to(1, 2)}, {}}, "to [1]; by 0 to [1 2]; "},
		"a counter that is reset": {[]api.Block{{Ops: ops(constant(3, 0)), Next: to(1)}, {Ops: ops(constant(4, 1), bin(3, 3, api.Add, 4), constant(3, 0)), Cond: 0, Next: to(1, 2)}, {}}, "to [1]; by 0 to [1 2]; "},
		"two for one another":     {[]api.Block{{Ops: ops(constant(3, 0)), Next: to(1)}, {Ops: ops(move(4, 3), constant(5, 1), move(3, 4)), Cond: 0, Next: to(1, 2)}, {}}, "3=#0 to [1]; 4=3 3=4 by 0 to [1 2]; "},
		"one after the other":     {[]api.Block{{Next: to(1)}, {Ops: ops(move(5, 4), move(4, 3), move(3, 1)), Cond: 0, Next: to(1, 2)}, {}}, "to [1]; by 0 to [1 2]; "},
		"without a way to the end": {[]api.Block{{Ops: ops(constant(0, 1), constant(1, 1)), Next: to(1)}, {Ops: ops(constant(2, 1), bin(1, 1, api.Add, 1)), Next: to(1)}, {Ops: ops(constant(0, 1), constant(3, 1))}},
			"1=#1 to [1]; 1=1+1 to [1]; 0=#1"},
		"in a section": {[]api.Block{{Ops: ops(constant(3, 1), constant(4, 1)), Next: to(1)}, {Ops: ops(lock(1), load(5, 2, 3), store(2, 3, 1), unlock(1)), Next: to(2)}, {Ops: ops(load(4, 2, 5))}},
			"3=#1 to [1]; lock 1 a2[3]=1 unlock 1 to [2]; "},
	} {
		x, _ := cleared(t, name, data(c.blocks...))
		if blocks(x) != c.want {
			t.Errorf("%s: %s\nnot %s", name, blocks(x), c.want)
		}
	}
}

// TestOneByOne has a loop in which each copy is needed by the one of the next round, but for the first one: 63 rounds leave one out each.
func TestOneByOne(t *testing.T) {
	var list []api.Op
	for v := 63; v > 0; v-- {
		list = append(list, move(v, v-1))
	}
	for keep := range 2 {
		g := api.Graph{Vars: 64, Keep: keep, Blocks: []api.Block{{Next: to(1)}, {Ops: list, Cond: 0, Next: to(1, 2)}, {}}}
		if x, _ := cleared(t, "one by one", g); len(x.Blocks[1].Ops) != 0 {
			t.Errorf("%s", blocks(x))
		}
		g.Blocks[2].Ops = ops(store(0, 63, 0))
		g.Arrays = []api.Array{{Size: 2}}
		if x, _ := cleared(t, "all", g); len(x.Blocks[1].Ops) != 63 {
			t.Errorf("%s", blocks(x))
		}
		g.Blocks[2].Ops = ops(store(0, 40, 0))
		if x, _ := cleared(t, "some", g); len(x.Blocks[1].Ops) != 40 {
			t.Errorf("%s", blocks(x))
		}
	}
	// The same in as many blocks as there can be, in the row in which they follow one another and in the other row.
	for _, step := range []int{1, -1} {
		g := api.Graph{Vars: 64, Blocks: make([]api.Block, 64)}
		for n := range 62 {
			b := 1 + n
			if step < 0 {
				b = 62 - n
			}
			g.Blocks[b] = api.Block{Ops: slices.Repeat(ops(move(63-n, 62-n)), 9), Next: to(b + step)}
		}
		first, last := 1, 62
		if step < 0 {
			first, last = 62, 1
		}
		g.Blocks[0].Next = to(first)
		g.Blocks[last].Cond, g.Blocks[last].Next = 0, to(first, 63)
		if x, _ := cleared(t, "blocks", g); blocks(x) != blocks(api.Graph{Blocks: empty(g.Blocks)}) {
			t.Errorf("%s", blocks(x))
		}
	}
}

// empty returns blocks without their operations.
func empty(list []api.Block) []api.Block {
	list = slices.Clone(list)
	for b := range list {
		list[b].Ops = nil
	}
	return list
}

// P15.2: blocks

// TestBlocks has blocks of which some are left out.
func TestBlocks(t *testing.T) {
	mark := func(n int, next ...int) api.Block {
		b := api.Block{Ops: ops(store(0, 0, n)), Next: next}
		if len(next) == 2 {
			b.Cond = n
		}
		return b
	}
	for name, c := range map[string]struct {
		blocks []api.Block
		want   string
		to     string
	}{
		"one":                 {[]api.Block{mark(5)}, "a0[0]=5", "[[0]]"},
		"a row":               {[]api.Block{mark(1, 1), mark(2, 2), mark(3)}, "a0[0]=1 to [1]; a0[0]=2 to [2]; a0[0]=3", "[[0] [1] [2]]"},
		"one is left out":     {[]api.Block{mark(1, 2), mark(2, 2), mark(3)}, "a0[0]=1 to [1]; a0[0]=3", "[[0] [] [1]]"},
		"in the other row":    {[]api.Block{mark(1, 3), mark(2), mark(3, 1), mark(4, 1)}, "a0[0]=1 to [2]; a0[0]=2; a0[0]=4 to [1]", "[[0] [1] [] [2]]"},
		"the last one":        {[]api.Block{mark(1, 1), mark(2), mark(3, 1)}, "a0[0]=1 to [1]; a0[0]=2", "[[0] [1] []]"},
		"those behind one":    {[]api.Block{mark(1, 4), mark(2, 2), mark(3, 3), mark(4, 4), mark(5)}, "a0[0]=1 to [1]; a0[0]=5", "[[0] [] [] [] [1]]"},
		"a cycle":             {[]api.Block{mark(1, 3), mark(2, 2, 3), mark(3, 1), mark(4)}, "a0[0]=1 to [1]; a0[0]=4", "[[0] [] [] [1]]"},
		"one that is its own": {[]api.Block{mark(1, 2), mark(2, 1), mark(3)}, "a0[0]=1 to [1]; a0[0]=3", "[[0] [] [1]]"},
		"two successors":      {[]api.Block{mark(1, 4, 2), mark(2, 2), mark(3, 4), mark(4, 4), mark(5)}, "a0[0]=1 by 1 to [2 1]; a0[0]=3 to [2]; a0[0]=5", "[[0] [] [1] [] [2]]"},
		"one that leads back": {[]api.Block{mark(1, 2), mark(2, 2, 3), mark(3, 2, 4), mark(4, 2), mark(5)}, "a0[0]=1 to [1]; a0[0]=3 by 3 to [1 2]; a0[0]=5", "[[0] [] [1] [] [2]]"},
		// The end stays, reached or not; what leads to it alone does not.
		"no way to the end":      {[]api.Block{mark(1, 1), mark(2, 1), mark(3)}, "a0[0]=1 to [1]; a0[0]=2 to [1]; a0[0]=3", "[[0] [1] [2]]"},
		"not by what is reached": {[]api.Block{mark(1, 2), mark(2, 4), mark(3, 2), mark(4, 4), mark(5)}, "a0[0]=1 to [1]; a0[0]=3 to [1]; a0[0]=5", "[[0] [] [1] [] [2]]"},
		"the end in front":       {[]api.Block{mark(1, 3), mark(2), mark(3, 1), mark(4, 3)}, "a0[0]=1 to [2]; a0[0]=2; a0[0]=4 to [2]", "[[0] [1] [] [2]]"},
		"the end at last":        {[]api.Block{mark(1, 3), mark(2, 4), mark(3, 1), mark(4, 3), mark(5)}, "a0[0]=1 to [1]; a0[0]=4 to [1]; a0[0]=5", "[[0] [] [] [1] [2]]"},
		"the end alone":          {[]api.Block{mark(1), mark(2, 2), mark(3, 1)}, "a0[0]=1", "[[0] [] []]"},
	} {
		x, l := cleared(t, name, data(c.blocks...))
		if blocks(x) != c.want || text(l) != c.to {
			t.Errorf("%s: %s, %v\nnot %s, %s", name, blocks(x), l, c.want, c.to)
		}
	}
}

// TestBlocksWithoutOperations has blocks that stay though they have become empty, and a variable that nobody needs any more, because a block was left out.
func TestBlocksWithoutOperations(t *testing.T) {
	g := data(
		api.Block{Ops: ops(constant(3, 1)), Next: to(2)}, api.Block{Ops: ops(store(0, 3, 3)), Next: to(3)},
		api.Block{Ops: ops(load(4, 0, 3)), Next: to(3)}, api.Block{Ops: ops(move(5, 4))})
	if x, l := cleared(t, "empty", g); blocks(x) != "to [1]; to [2]; " || text(l) != "[[0] [] [1] [2]]" {
		t.Errorf("%s, %v", blocks(x), l)
	}
}

// TestPointsAndHeads has points of, and heads for, blocks that are left out, and others.
func TestPointsAndHeads(t *testing.T) {
	g := data(
		api.Block{Next: to(2)}, api.Block{Next: to(2)}, api.Block{Cond: 3, Next: to(4, 6)}, api.Block{Cond: 3, Next: to(1, 4)},
		api.Block{Next: to(2)}, api.Block{Next: to(5)}, api.Block{})
	g.Points = [][]int{{0}, nil, {1}, {6, 1, 0}, {6, 5, 4, 3, 2, 1, 0}, {3, 5}, {2, 4}, {1, 3, 5, 6}}
	for b, most := range to(9, 8, 0, 7, 4000, 6, 5) {
		g.Heads = append(g.Heads, api.Head{Block: b, Max: most})
	}
	x, l := cleared(t, "points", g)
	if got := blocks(x); got != "to [1]; by 3 to [2 3]; to [1]; " || text(l) != "[[0] [] [1] [] [2] [] [3]]" {
		t.Errorf("%s, %v", got, l)
	}
	if got := text(x.Points); got != "[[0] [] [] [3 0] [3 2 1 0] [] [1 2] [3]]" {
		t.Error(got)
	}
	if got := text(x.Heads); got != "[{Block:0 Max:9} {Block:1 Max:0} {Block:2 Max:4000} {Block:3 Max:5}]" {
		t.Error(got)
	}
	// The end keeps its point and its head, reached or not.
	g = data(api.Block{Next: to(2)}, api.Block{Next: to(3)}, api.Block{Next: to(2)}, api.Block{})
	g.Points, g.Heads = [][]int{{3, 1}, {1}, {2, 3}}, []api.Head{{Block: 1, Max: 3}, {Block: 2, Max: 4}, {Block: 3, Max: 5}}
	x, _ = cleared(t, "the end", g)
	if text(x.Points) != "[[2] [] [1 2]]" || text(x.Heads) != "[{Block:1 Max:4} {Block:2 Max:5}]" {
		t.Errorf("%v, %v", x.Points, x.Heads)
	}
	x, _ = cleared(t, "data", data(api.Block{}))
	if text(x.Inputs) != "[{Name:x Lo:-10 Hi:10} {Name:y Lo:-2147483648 Hi:2147483647}]" || x.Vars != 6 || x.Keep != 3 ||
		text(x.Arrays) != "[{Name:a Size:1} {Name:b Size:4} {Name:c Size:2} {Name:d Size:8}]" || x.Shared != 2 {
		t.Errorf("%+v", x)
	}
}

// TestTheLeastAndTheGreatest has the least graph, and some that are as large as a graph can be.
func TestTheLeastAndTheGreatest(t *testing.T) {
	for _, g := range []api.Graph{
		{Blocks: []api.Block{{}}},
		{Inputs: []api.Input{}, Arrays: []api.Array{}, Points: [][]int{}, Heads: []api.Head{}, Blocks: []api.Block{{Ops: []api.Op{}, Next: []int{}}}},
	} {
		if x, l := cleared(t, "the least", g); text(x) != text(g) || text(l) != "[[0]]" {
			t.Errorf("%+v, %v", x, l)
		}
	}
	g := greatest()
	if x, l := cleared(t, "the greatest", g); text(x) != text(g) || len(l) != 64 {
		t.Errorf("%+v, %v", x, l)
	}
	// The first block leads to the end, and all between them are left out.
	g.Blocks[0].Next = to(63)
	x, l := cleared(t, "the end", g)
	if len(x.Blocks) != 2 || text(x.Blocks[0].Next) != "[1]" || len(l) != 64 || text(l[63]) != "[1]" || text(x.Points) != text(slices.Repeat([][]int{{1, 0}}, 39)) {
		t.Errorf("%+v, %v", x, l)
	}
	g = api.Graph{Vars: 1, Blocks: []api.Block{{Ops: slices.Repeat(ops(constant(0, 3)), api.MaxOps)}}}
	if x, _ := cleared(t, "operations", g); len(x.Blocks[0].Ops) != 0 {
		t.Errorf("%+v", x)
	}
	g.Keep = 1
	if x, _ := cleared(t, "operations", g); blocks(x) != "0=#3" {
		t.Errorf("%+v", x)
	}
}

// P15.2: errors

func TestErrorsOfDead(t *testing.T) {
	for want, graphs := range map[api.Errno]map[string]api.Graph{api.ErrForm: broken(), api.ErrLimit: large()} {
		for name, g := range graphs {
			before := text(g)
			x, l, e := Dead(g)
			if e != want || e != graph.Check(g) || text(x) != text(api.Graph{}) || len(l) != 0 || text(g) != before {
				t.Errorf("%s: error %d, not %d, %+v, %v", name, e, want, x, l)
			}
		}
	}
}

// wipe changes all that lists of a graph have, and writes behind their ends.
func wipe(g api.Graph) {
	lists := g.Points
	for b, block := range g.Blocks {
		clear(block.Ops)
		_ = append(block.Ops, constant(5, 5))
		lists, g.Blocks[b] = append(lists, block.Next), api.Block{}
	}
	for _, l := range lists {
		clear(l)
		_ = append(l, -99)
	}
	clear(g.Inputs)
	clear(g.Arrays)
	clear(g.Points)
	clear(g.Heads)
}

// TestResultsOfDeadAreNew changes what was given and what was returned: nothing else changes. In one graph all is needed, in the other one a part is left out.
func TestResultsOfDeadAreNew(t *testing.T) {
	for first := 1; first < 3; first++ {
		given := func() api.Graph {
			g := data(
				api.Block{Ops: ops(move(3, 1), move(4, 3)), Cond: 4, Next: to(first, 3)}, api.Block{Ops: ops(constant(2, 1)), Cond: 2, Next: to(2, 3)},
				api.Block{Ops: ops(load(2, 1, 3)), Next: to(3)}, api.Block{Ops: ops(store(1, 2, 3))})
			g.Points, g.Heads = [][]int{{0}, {1, 2}, {3}}, []api.Head{{Block: 1, Max: 7}, {Block: 2, Max: 8}}
			return g
		}
		g := given()
		x, l, _ := Dead(g)
		want, lists := text(x), text(l)
		wipe(g)
		if text(x) != want || text(l) != lists {
			t.Errorf("what was given has changed it: %+v, %v", x, l)
		}
		g = given()
		before := text(g)
		x, l, _ = Dead(g)
		for _, list := range l {
			clear(list)
			_ = append(list, -99)
		}
		if text(x) != want {
			t.Errorf("the map has changed it: %+v", x)
		}
		wipe(x)
		if text(g) != before {
			t.Errorf("what was returned has changed %+v", g)
		}
		// Lists of one result are changed one by one: what is behind an end is no other list's.
		x, l, _ = Dead(g)
		parts := slices.Concat(x.Points, l)
		for _, b := range x.Blocks {
			parts = append(parts, b.Next)
			_ = append(b.Ops, constant(5, 5))
		}
		if text(x) != want {
			t.Errorf("operations have changed it: %+v", x)
		}
		for i, list := range parts {
			others := text([]any{parts[:i], parts[i+1:]})
			for n := range list {
				list[n] = -99
			}
			_ = append(list, -99)
			if text([]any{parts[:i], parts[i+1:]}) != others {
				t.Errorf("the list %d has changed others", i)
			}
		}
		if y, m, e := Dead(given()); e != api.OK || text(y) != want || text(m) != lists {
			t.Errorf("again: error %d, %+v, %v", e, y, m)
		}
	}
}

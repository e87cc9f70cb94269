package graph

import (
	"fmt"
	"math"
	"slices"
	"testing"
	"timebound/api"
)

// right is a valid graph with something of everything: 10 variables, of which 4 are kept, and 3 arrays.
func right() api.Graph {
	return api.Graph{
		Inputs: []api.Input{{Name: "x", Lo: -1, Hi: 5}, {Name: "y", Lo: 3, Hi: 3}},
		Vars:   10, Keep: 4,
		Arrays: []api.Array{{Name: "a", Size: 1}, {Name: "b", Size: 8}, {Name: "c", Size: 16}}, Shared: 1,
		Blocks: []api.Block{
			{Ops: []api.Op{{Kind: api.OpConst, Dst: 9, Imm: -7}}, Next: to(1)},
			{Ops: []api.Op{{Kind: api.OpLock, Imm: 3}, {Kind: api.OpBin, Dst: 1, A: 2, B: 3, Imm: api.Ne}, {Kind: api.OpUnlock, Imm: 3}}, Cond: 9, Next: to(2, 3)},
			{Ops: []api.Op{{Kind: api.OpLoad, Dst: 1, A: 9, Imm: 2}, {Kind: api.OpStore, A: 9, B: 8}}, Next: to(1)},
			{},
			{Ops: []api.Op{{Kind: api.OpCopy, Dst: 1, A: 9}}, Next: to(3)},
		},
		Points: [][]int{{0}, nil, {4, 1, 0}},
		Heads:  []api.Head{{Block: 1, Max: 5}, {Block: 4}},
	}
}

// change is a graph with something else in it.
type change map[string]func(g *api.Graph)

// row is a number of empty blocks behind one another.
func row(n int) []api.Block {
	l := make([]api.Block, n)
	for b := range n - 1 {
		l[b].Next = to(b + 1)
	}
	return l
}

// copies is a number of operations.
func copies(n int) []api.Op { return slices.Repeat([]api.Op{{Kind: api.OpCopy}}, n) }

func TestCheckOfWhatIsRight(t *testing.T) {
	for name, f := range (change{
		"as it is":             func(g *api.Graph) {},
		"an empty block":       func(g *api.Graph) { *g = api.Graph{Blocks: row(1)} },
		"64 blocks":            func(g *api.Graph) { *g = api.Graph{Blocks: row(64)} },
		"600 operations":       func(g *api.Graph) { *g = api.Graph{Vars: 1, Blocks: []api.Block{{Ops: copies(600)}}} },
		"600 in three blocks":  func(g *api.Graph) { g.Blocks[4].Ops, g.Blocks[3].Ops = copies(300), copies(294) },
		"64 variables":         func(g *api.Graph) { g.Vars = 64 },
		"all are kept":         func(g *api.Graph) { g.Vars, g.Keep = 64, 64 },
		"only inputs are kept": func(g *api.Graph) { g.Keep = 2 },
		"no inputs":            func(g *api.Graph) { g.Inputs, g.Keep = nil, 0 },
		"64 inputs":            func(g *api.Graph) { g.Inputs, g.Vars, g.Keep = make([]api.Input, 64), 64, 64 },
		"equal names":          func(g *api.Graph) { g.Inputs[0].Name, g.Inputs[1].Name, g.Arrays[0].Name = "b", "b", "b" },
		"the widest range":     func(g *api.Graph) { g.Inputs[0] = api.Input{Lo: math.MinInt32, Hi: math.MaxInt32} },
		"8 arrays":             func(g *api.Graph) { g.Arrays = slices.Repeat([]api.Array{{Size: 2}}, 8) },
		"8 shared arrays":      func(g *api.Graph) { g.Arrays, g.Shared = slices.Repeat([]api.Array{{Size: 4}}, 8), 8 },
		"all arrays are":       func(g *api.Graph) { g.Shared = 3 },
		"none is shared":       func(g *api.Graph) { g.Shared = 0 },
		"no arrays":            func(g *api.Graph) { g.Arrays, g.Shared, g.Blocks[2].Ops = nil, 0, nil },
		"the variable 0":       func(g *api.Graph) { g.Blocks[1].Cond = 0 },
		"to itself":            func(g *api.Graph) { g.Blocks[4].Next = to(4) },
		"to itself, or behind": func(g *api.Graph) { g.Blocks[2].Next = to(2, 3) },
		"39 points":            func(g *api.Graph) { g.Points = slices.Repeat([][]int{{4, 3, 2, 1, 0}}, 39) },
		"no points":            func(g *api.Graph) { g.Points = nil },
		"no heads":             func(g *api.Graph) { g.Heads = nil },
		"all heads":            func(g *api.Graph) { g.Heads = []api.Head{{}, {Block: 1}, {Block: 2}, {Block: 3}, {Block: 4}} },
		"4000 rounds":          func(g *api.Graph) { g.Heads[0].Max, g.Heads[1].Max = 4000, 4000 },
		"a lock alone":         func(g *api.Graph) { g.Blocks[4].Ops = []api.Op{{Kind: api.OpLock}} },
		"an unlock alone":      func(g *api.Graph) { g.Blocks[4].Ops = []api.Op{{Kind: api.OpUnlock}} },
		"no way to the end":    func(g *api.Graph) { g.Blocks[1].Next, g.Blocks[1].Cond, g.Blocks[4].Next = to(2), 0, to(3) },
		"the end comes first":  func(g *api.Graph) { *g = api.Graph{Blocks: []api.Block{{}, {Next: to(2)}, {Next: to(1)}}} },
	}) {
		g := right()
		f(&g)
		before := text(g)
		if e := Check(g); e != api.OK {
			t.Errorf("%s: error %d", name, e)
		}
		if text(g) != before {
			t.Errorf("%s: the graph has changed", name)
		}
	}
}

// large are changes that exceed a limit.
func large() change {
	return change{
		"65 blocks":             func(g *api.Graph) { g.Blocks = row(65) },
		"5000 blocks":           func(g *api.Graph) { g.Blocks = make([]api.Block, 5000) },
		"601 operations":        func(g *api.Graph) { g.Blocks = append(g.Blocks, api.Block{Ops: copies(601), Next: to(3)}) },
		"many operations":       func(g *api.Graph) { g.Blocks = append(g.Blocks, api.Block{Ops: make([]api.Op, 5000)}) },
		"65 variables":          func(g *api.Graph) { g.Vars = 65 },
		"the most variables":    func(g *api.Graph) { g.Vars = math.MaxInt },
		"9 arrays":              func(g *api.Graph) { g.Arrays = slices.Repeat([]api.Array{{Size: 2}}, 9) },
		"40 points":             func(g *api.Graph) { g.Points = make([][]int, 40) },
		"more points than that": func(g *api.Graph) { g.Points = make([][]int, 5000) },
	}
}

// wrong are changes by which a graph is not valid.
func wrong() change {
	c := change{
		"no block":                 func(g *api.Graph) { g.Blocks, g.Points, g.Heads = nil, nil, nil },
		"no variables":             func(g *api.Graph) { g.Vars, g.Keep, g.Inputs = 0, 0, nil },
		"nothing is kept":          func(g *api.Graph) { g.Keep = 0 },
		"one input is not kept":    func(g *api.Graph) { g.Keep = 1 },
		"more inputs than kept":    func(g *api.Graph) { g.Inputs = make([]api.Input, 5) },
		"many inputs":              func(g *api.Graph) { g.Inputs = make([]api.Input, 5000) },
		"an input":                 func(g *api.Graph) { g.Inputs[0] = api.Input{Lo: 3, Hi: 2} },
		"the last input":           func(g *api.Graph) { g.Inputs[1] = api.Input{Lo: 0, Hi: -1} },
		"a greatest word":          func(g *api.Graph) { g.Inputs[0].Hi = math.MaxInt32 + 1 },
		"a least word":             func(g *api.Graph) { g.Inputs[1].Lo = math.MinInt32 - 1 },
		"both words":               func(g *api.Graph) { g.Inputs[1].Lo, g.Inputs[1].Hi = 1<<32, 1<<32 },
		"a third successor":        func(g *api.Graph) { g.Blocks[1].Next = to(2, 3, 4) },
		"a third successor, alike": func(g *api.Graph) { g.Blocks[1].Next = to(2, 3, 2) },
		"many successors":          func(g *api.Graph) { g.Blocks[1].Next = slices.Repeat(to(2, 3), 5000) },
		"a third, and no Cond":     func(g *api.Graph) { g.Blocks[1].Next, g.Blocks[1].Cond = to(2, 3, 4), 0 },
		"equal successors":         func(g *api.Graph) { g.Blocks[1].Next = to(3, 3) },
		"equal ones, no Cond":      func(g *api.Graph) { g.Blocks[1].Next, g.Blocks[1].Cond = to(3, 3), 0 },
		"back to the first":        func(g *api.Graph) { g.Blocks[2].Next = to(0) },
		"back to the first, too":   func(g *api.Graph) { g.Blocks[1].Next = to(2, 0) },
		"back from what is apart":  func(g *api.Graph) { g.Blocks[4].Next = to(0) },
		"the first to itself":      func(g *api.Graph) { g.Blocks[0].Next = to(0) },
		"a Cond of one successor":  func(g *api.Graph) { g.Blocks[2].Cond = 1 },
		"a Cond of the end":        func(g *api.Graph) { g.Blocks[3].Cond = 1 },
		"a Cond below 0":           func(g *api.Graph) { g.Blocks[3].Cond = -1 },
		"no end":                   func(g *api.Graph) { g.Blocks[3].Next = to(1) },
		"a second end":             func(g *api.Graph) { g.Blocks[4].Next = nil },
		"only ends":                func(g *api.Graph) { *g = api.Graph{Blocks: make([]api.Block, 2)} },
		"a block twice":            func(g *api.Graph) { g.Points[2] = to(4, 1, 4) },
		"the block 0 twice":        func(g *api.Graph) { g.Points[0] = to(0, 0) },
		"a block many times":       func(g *api.Graph) { g.Points[1] = slices.Repeat(to(2), 5000) },
		"a head twice":             func(g *api.Graph) { g.Heads[1].Block = 1 },
		"the first head twice":     func(g *api.Graph) { g.Heads = make([]api.Head, 2) },
		"descending heads":         func(g *api.Graph) { g.Heads[0].Block, g.Heads[1].Block = 4, 1 },
		"descending at the end":    func(g *api.Graph) { g.Heads = append(g.Heads, api.Head{Block: 3}) },
		"many heads":               func(g *api.Graph) { g.Heads = make([]api.Head, 5000) },
	}
	for _, n := range []int{-1, -64, 5, 64, 65, math.MinInt, math.MaxInt} {
		c[fmt.Sprint("a successor ", n)] = func(g *api.Graph) { g.Blocks[2].Next = to(n) }
		c[fmt.Sprint("the first successor ", n)] = func(g *api.Graph) { g.Blocks[1].Next = to(n, 2) }
		c[fmt.Sprint("the last successor ", n)] = func(g *api.Graph) { g.Blocks[1].Next = to(2, n) }
		c[fmt.Sprint("a block of a point ", n)] = func(g *api.Graph) { g.Points[1] = to(2, n, 3) }
		c[fmt.Sprint("a head ", n)] = func(g *api.Graph) { g.Heads[1].Block = n }
		c[fmt.Sprint("the first head ", n)] = func(g *api.Graph) { g.Heads[0].Block = n }
	}
	for _, n := range []int{-1, -2, 10, 11, 64, math.MinInt, math.MaxInt} {
		c[fmt.Sprint("Cond ", n)] = func(g *api.Graph) { g.Blocks[1].Cond = n }
	}
	for _, n := range []int{-1, -2, math.MinInt} {
		c[fmt.Sprint(n, " variables")] = func(g *api.Graph) { *g = api.Graph{Vars: n, Blocks: row(1)} }
		c[fmt.Sprint(n, " variables, all kept")] = func(g *api.Graph) { *g = api.Graph{Vars: n, Keep: n, Blocks: row(1)} }
		c[fmt.Sprint(n, " are kept of none")] = func(g *api.Graph) { *g = api.Graph{Keep: n, Blocks: row(1)} }
	}
	for _, n := range []int{-1, 11, 65, math.MinInt, math.MaxInt} {
		c[fmt.Sprint(n, " are kept")] = func(g *api.Graph) { g.Keep = n }
	}
	for _, n := range []int{-1, 4, 9, math.MinInt, math.MaxInt} {
		c[fmt.Sprint(n, " are shared")] = func(g *api.Graph) { g.Shared = n }
	}
	for _, n := range []int{0, -1, -2, -16, 3, 5, 6, 7, 9, 12, 15, 17, 32, math.MinInt, math.MaxInt} {
		c[fmt.Sprint("the size ", n)] = func(g *api.Graph) { g.Arrays[0].Size = n }
		c[fmt.Sprint("the last size ", n)] = func(g *api.Graph) { g.Arrays[2].Size = n }
	}
	for _, n := range []int{-1, 4001, math.MinInt, math.MaxInt} {
		c[fmt.Sprint("Max ", n)] = func(g *api.Graph) { g.Heads[0].Max = n }
		c[fmt.Sprint("the last Max ", n)] = func(g *api.Graph) { g.Heads[1].Max = n }
	}
	return c
}

// refused has Check and Loops refuse a graph.
func refused(t *testing.T, name string, g api.Graph, want api.Errno) {
	t.Helper()
	if e := Check(g); e != want {
		t.Errorf("%s: error %d, not %d", name, e, want)
	}
	if l, e := Loops(g); e != want || len(l) != 0 {
		t.Errorf("%s: loops %v, error %d, not %d", name, l, e, want)
	}
}

func TestCheckOfWhatIsNot(t *testing.T) {
	for name, f := range wrong() {
		g := right()
		f(&g)
		refused(t, name, g, api.ErrForm)
	}
}

// TestLimitsComeFirst has each graph that exceeds a limit, alone and with all else that is wrong.
func TestLimitsComeFirst(t *testing.T) {
	for much, exceed := range large() {
		g := right()
		exceed(&g)
		refused(t, much, g, api.ErrLimit)
		for name, f := range wrong() {
			g := right()
			f(&g)
			exceed(&g)
			if e := Check(g); e != api.ErrLimit {
				t.Errorf("%s, %s: error %d", name, much, e)
			}
		}
	}
}

// TestLimitOfOperations has one operation too many, in one or in all blocks.
func TestLimitOfOperations(t *testing.T) {
	g := right()
	g.Blocks[3].Ops = copies(594)
	refused(t, "in one", g, api.ErrLimit)
	for b := range g.Blocks {
		g.Blocks[b].Ops = copies(120)
	}
	if e := Check(g); e != api.OK {
		t.Errorf("five times 120: error %d", e)
	}
	g.Blocks[2].Ops = copies(121)
	refused(t, "in all", g, api.ErrLimit)
}

// field is a field of an operation: what it can be, from 0 on, and below which number.
type field struct {
	of    func(o *api.Op) *int
	below int
}

// TestOperations has each kind of operation with each number that is near to what a field can be.
func TestOperations(t *testing.T) {
	dst, a, b, imm := func(o *api.Op) *int { return &o.Dst }, func(o *api.Op) *int { return &o.A }, func(o *api.Op) *int { return &o.B }, func(o *api.Op) *int { return &o.Imm }
	const vars, arrays = 10, 3
	for kind, fields := range map[int][]field{
		api.OpConst:  {{dst, vars}, {a, 1}, {b, 1}},
		api.OpCopy:   {{dst, vars}, {a, vars}, {b, 1}, {imm, 1}},
		api.OpBin:    {{dst, vars}, {a, vars}, {b, vars}},
		api.OpLoad:   {{dst, vars}, {a, vars}, {b, 1}, {imm, arrays}},
		api.OpStore:  {{dst, 1}, {a, vars}, {b, vars}, {imm, arrays}},
		api.OpLock:   {{dst, 1}, {a, 1}, {b, 1}, {imm, 4}},
		api.OpUnlock: {{dst, 1}, {a, 1}, {b, 1}, {imm, 4}},
	} {
		base := api.Op{Kind: kind}
		if kind == api.OpBin {
			base.Imm = api.Mul
		}
		for i, f := range fields {
			for _, n := range []int{0, 1, 2, 3, 4, 5, 9, 10, 11, 64, -1, -2, math.MinInt, math.MaxInt} {
				o := base
				*f.of(&o) = n
				operation(t, fmt.Sprintf("kind %d, field %d: %d", kind, i, n), o, 0 <= n && n < f.below)
			}
		}
		operation(t, fmt.Sprintf("kind %d", kind), base, true)
	}
	for n := -2; n < 20; n++ {
		operation(t, fmt.Sprint("operator ", n), api.Op{Kind: api.OpBin, Imm: n}, 1 <= n && n <= 14)
	}
	for n, ok := range map[int]bool{0: true, math.MinInt32: true, math.MaxInt32: true, -1: true, math.MinInt32 - 1: false, math.MaxInt32 + 1: false, 1 << 32: false, math.MinInt: false, math.MaxInt: false} {
		operation(t, fmt.Sprint("constant ", n), api.Op{Kind: api.OpConst, Dst: 9, Imm: n}, ok)
	}
	for _, kind := range []int{0, -1, 8, 9, math.MinInt, math.MaxInt} {
		operation(t, fmt.Sprint("kind ", kind), api.Op{Kind: kind}, false)
	}
}

// operation puts an operation into blocks of a right graph: alone, and, if it is no lock, at the ends of others.
func operation(t *testing.T, name string, o api.Op, ok bool) {
	t.Helper()
	want := api.ErrForm
	if ok {
		want = api.OK
	}
	for block := range 5 {
		g := right()
		g.Blocks[block].Ops = []api.Op{o}
		if e := Check(g); e != want {
			t.Errorf("%s, in block %d: error %d, not %d", name, block, e, want)
		}
	}
	for at := range 4 {
		g := right()
		g.Blocks[2].Ops = slices.Insert(copies(3), at, o)
		want := want
		if o.Kind == api.OpLock && at > 0 || o.Kind == api.OpUnlock && at < 3 {
			want = api.ErrForm
		}
		if e := Check(g); e != want {
			t.Errorf("%s, at %d of four: error %d, not %d", name, at, e, want)
		}
	}
}

// TestPlacesOfLocks has several of them in a block.
func TestPlacesOfLocks(t *testing.T) {
	lock, unlock, c := api.Op{Kind: api.OpLock, Imm: 1}, api.Op{Kind: api.OpUnlock, Imm: 1}, api.Op{Kind: api.OpCopy}
	for i, x := range []struct {
		ops  []api.Op
		want api.Errno
	}{
		{[]api.Op{lock, unlock}, api.OK},
		{[]api.Op{lock, c, c, unlock}, api.OK},
		{[]api.Op{lock, c}, api.OK},
		{[]api.Op{c, unlock}, api.OK},
		{[]api.Op{unlock, lock}, api.ErrForm},
		{[]api.Op{lock, lock}, api.ErrForm},
		{[]api.Op{unlock, unlock}, api.ErrForm},
		{[]api.Op{lock, lock, unlock}, api.ErrForm},
		{[]api.Op{lock, unlock, unlock}, api.ErrForm},
		{[]api.Op{lock, unlock, c}, api.ErrForm},
		{[]api.Op{c, lock, unlock}, api.ErrForm},
	} {
		g := right()
		g.Blocks[4].Ops = x.ops
		if e := Check(g); e != x.want {
			t.Errorf("locks %d: error %d, not %d", i, e, x.want)
		}
	}
}

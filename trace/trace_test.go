package trace

import (
	"fmt"
	"math"
	"slices"
	"testing"
	"timebound/api"
)

func to(l ...int) []int { return l }

func ops(l ...api.Op) []api.Op { return l }

func constant(dst, n int) api.Op { return api.Op{Kind: api.OpConst, Dst: dst, Imm: n} }

func move(dst, a int) api.Op { return api.Op{Kind: api.OpCopy, Dst: dst, A: a} }

func bin(dst, a, op, b int) api.Op { return api.Op{Kind: api.OpBin, Dst: dst, A: a, B: b, Imm: op} }

func load(dst, array, a int) api.Op { return api.Op{Kind: api.OpLoad, Dst: dst, A: a, Imm: array} }

func store(array, a, b int) api.Op { return api.Op{Kind: api.OpStore, A: a, B: b, Imm: array} }

func lock(resource int) api.Op { return api.Op{Kind: api.OpLock, Imm: resource} }

func unlock(resource int) api.Op { return api.Op{Kind: api.OpUnlock, Imm: resource} }

// data is a graph of blocks with the inputs 0 and 1, and the variables 2 to 5, of which the last two are not kept. Of its arrays of 1, 4, 2 and 8 words the last two are shared.
func data(l ...api.Block) api.Graph {
	return api.Graph{
		Inputs: []api.Input{{Name: "x", Lo: -10, Hi: 10}, {Name: "y", Lo: math.MinInt32, Hi: math.MaxInt32}},
		Vars:   6, Keep: 4,
		Arrays: []api.Array{{Name: "a", Size: 1}, {Name: "b", Size: 4}, {Name: "c", Size: 2}, {Name: "d", Size: 8}}, Shared: 2,
		Blocks: l,
	}
}

// lists are the contents of the shared arrays of data.
func lists() [][]int { return [][]int{{5, -6}, {10, 20, 30, 40, 50, 60, 70, math.MinInt32}} }

// text is all that a value has: nil and empty lists are the same.
func text(x any) string { return fmt.Sprintf("%+v", x) }

// after is what a run leads to from the inputs 7 and -3: parts that are nil are as they were in the beginning.
type after struct {
	vars       []int
	a, b, c, d []int
	counts     []int
}

func or(l []int, other ...int) []int {
	if l == nil {
		return other
	}
	return l
}

func (w after) outcome(steps int) api.Outcome {
	return api.Outcome{
		Vars: or(w.vars, 7, -3, 0, 0), Arrays: [][]int{or(w.a, 0), or(w.b, 0, 0, 0, 0)},
		Shared: [][]int{or(w.c, 5, -6), or(w.d, lists()[1]...)}, Counts: or(w.counts, 1), Steps: steps,
	}
}

// P13.1: what operations do

func TestOperations(t *testing.T) {
	for name, c := range map[string]struct {
		ops  []api.Op
		want after
	}{
		"none":                  {nil, after{}},
		"a constant":            {ops(constant(2, 5)), after{vars: to(7, -3, 5, 0)}},
		"the least word":        {ops(constant(3, math.MinInt32)), after{vars: to(7, -3, 0, math.MinInt32)}},
		"the greatest word":     {ops(constant(0, math.MaxInt32)), after{vars: to(math.MaxInt32, -3, 0, 0)}},
		"one that is not kept":  {ops(constant(4, 5), constant(5, 6)), after{}},
		"a copy of an input":    {ops(move(2, 1), move(3, 0)), after{vars: to(7, -3, -3, 7)}},
		"a copy of a copy":      {ops(move(4, 1), move(5, 4), move(2, 5)), after{vars: to(7, -3, -3, 0)}},
		"a copy of what is 0":   {ops(move(0, 5), move(1, 4)), after{vars: to(0, 0, 0, 0)}},
		"a copy to itself":      {ops(move(0, 0)), after{}},
		"an exchange":           {ops(move(4, 0), move(0, 1), move(1, 4)), after{vars: to(-3, 7, 0, 0)}},
		"a sum":                 {ops(bin(2, 0, api.Add, 1)), after{vars: to(7, -3, 4, 0)}},
		"a difference":          {ops(bin(2, 0, api.Sub, 1), bin(3, 1, api.Sub, 0)), after{vars: to(7, -3, 10, -10)}},
		"in place":              {ops(bin(0, 0, api.Mul, 0), bin(0, 0, api.Sub, 1)), after{vars: to(52, -3, 0, 0)}},
		"over the second one":   {ops(bin(1, 0, api.Sub, 1)), after{vars: to(7, 10, 0, 0)}},
		"a quotient":            {ops(bin(2, 0, api.Div, 1), bin(3, 0, api.Rem, 1)), after{vars: to(7, -3, -2, 1)}},
		"a quotient by 0":       {ops(bin(2, 0, api.Div, 5), bin(3, 0, api.Rem, 5)), after{}},
		"bits":                  {ops(bin(2, 0, api.And, 1), bin(3, 0, api.Xor, 1)), after{vars: to(7, -3, 5, -6)}},
		"bits of either":        {ops(bin(2, 0, api.Or, 1)), after{vars: to(7, -3, -1, 0)}},
		"shifts":                {ops(constant(5, 2), bin(2, 0, api.Shl, 5), bin(3, 1, api.Shr, 5)), after{vars: to(7, -3, 28, -1)}},
		"comparisons":           {ops(bin(2, 1, api.Lt, 0), bin(3, 0, api.Le, 1)), after{vars: to(7, -3, 1, 0)}},
		"equal, and not":        {ops(bin(2, 5, api.Eq, 4), bin(3, 0, api.Ne, 1)), after{vars: to(7, -3, 1, 1)}},
		"beyond the words":      {ops(constant(2, math.MaxInt32), bin(2, 2, api.Add, 0)), after{vars: to(7, -3, math.MinInt32+6, 0)}},
		"a load of what is 0":   {ops(load(0, 1, 5)), after{vars: to(0, -3, 0, 0)}},
		"a load":                {ops(constant(5, 3), load(2, 3, 5)), after{vars: to(7, -3, 40, 0)}},
		"the last element":      {ops(load(2, 3, 0)), after{vars: to(7, -3, math.MinInt32, 0)}},
		"behind the last":       {ops(load(2, 2, 0), constant(5, 8), load(3, 3, 5)), after{vars: to(7, -3, -6, 10)}},
		"before the first":      {ops(load(2, 3, 1), constant(5, -8), load(3, 3, 5)), after{vars: to(7, -3, 60, 10)}},
		"the least index":       {ops(constant(5, math.MinInt32), load(2, 3, 5), constant(5, math.MaxInt32), load(3, 3, 5)), after{vars: to(7, -3, 10, math.MinInt32)}},
		"over the index":        {ops(load(0, 3, 0)), after{vars: to(math.MinInt32, -3, 0, 0)}},
		"a store":               {ops(constant(5, 2), store(1, 5, 0)), after{b: to(0, 0, 7, 0)}},
		"a store behind":        {ops(store(1, 0, 1), store(2, 0, 1)), after{b: to(0, 0, 0, -3), c: to(5, -3)}},
		"a store before":        {ops(store(1, 1, 0), constant(5, -1), store(1, 5, 1)), after{b: to(0, 7, 0, -3)}},
		"one element":           {ops(store(0, 0, 1), store(0, 1, 0)), after{a: to(7)}},
		"what was stored":       {ops(store(1, 0, 1), constant(5, 3), load(2, 1, 5), load(3, 1, 4)), after{vars: to(7, -3, -3, 0), b: to(0, 0, 0, -3)}},
		"a shared one":          {ops(store(3, 1, 1), load(2, 3, 1)), after{vars: to(7, -3, -3, 0), d: to(10, 20, 30, 40, 50, -3, 70, math.MinInt32)}},
		"all arrays":            {ops(store(0, 5, 0), store(1, 5, 0), store(2, 5, 0), store(3, 5, 0)), after{a: to(7), b: to(7, 0, 0, 0), c: to(7, -6), d: to(7, 20, 30, 40, 50, 60, 70, math.MinInt32)}},
		"the index as a value":  {ops(store(3, 0, 0)), after{d: to(10, 20, 30, 40, 50, 60, 70, 7)}},
		"a lock and its unlock": {ops(lock(0), constant(2, 1), unlock(0)), after{vars: to(7, -3, 1, 0)}},
		"a lock alone":          {ops(lock(3), move(2, 0)), after{vars: to(7, -3, 7, 0)}},
	} {
		want := c.want.outcome(len(c.ops))
		if o, e := Run(data(api.Block{Ops: c.ops}), to(7, -3), lists(), 50); e != api.OK || text(o) != text(want) {
			t.Errorf("%s: error %d\n     %+v\nnot: %+v", name, e, o, want)
		}
	}
}

// P13.1: the ways that a run takes

func TestWaysThroughBlocks(t *testing.T) {
	count := ops(constant(5, 1), bin(2, 2, api.Add, 5))
	for name, c := range map[string]struct {
		blocks []api.Block
		want   after
		steps  int
	}{
		"one block":          {[]api.Block{{}}, after{}, 0},
		"a row":              {[]api.Block{{Next: to(2)}, {}, {Next: to(1)}}, after{counts: to(1, 1, 1)}, 0},
		"not reached":        {[]api.Block{{Next: to(2)}, {Ops: count, Next: to(2)}, {}}, after{counts: to(1, 0, 1)}, 0},
		"the end at once":    {[]api.Block{{}, {Ops: count, Next: to(2)}, {Next: to(1)}}, after{counts: to(1, 0, 0)}, 0},
		"not 0":              {[]api.Block{{Cond: 0, Next: to(2, 1)}, {}, {Ops: count, Next: to(1)}}, after{vars: to(7, -3, 1, 0), counts: to(1, 1, 1)}, 2},
		"below 0":            {[]api.Block{{Cond: 1, Next: to(2, 1)}, {}, {Next: to(1)}}, after{counts: to(1, 1, 1)}, 0},
		"0":                  {[]api.Block{{Cond: 2, Next: to(2, 1)}, {}, {Ops: count, Next: to(1)}}, after{counts: to(1, 1, 0)}, 0},
		"one that is cut":    {[]api.Block{{Cond: 5, Next: to(2, 1)}, {}, {Next: to(1)}}, after{counts: to(1, 1, 0)}, 0},
		"set in the block":   {[]api.Block{{Ops: ops(constant(5, 2)), Cond: 5, Next: to(2, 1)}, {}, {Next: to(1)}}, after{counts: to(1, 1, 1)}, 1},
		"set to 0 in it":     {[]api.Block{{Ops: ops(constant(0, 0)), Cond: 0, Next: to(2, 1)}, {}, {Next: to(1)}}, after{vars: to(0, -3, 0, 0), counts: to(1, 1, 0)}, 1},
		"no condition":       {[]api.Block{{Ops: ops(constant(0, 0)), Next: to(2)}, {}, {Next: to(1)}}, after{vars: to(0, -3, 0, 0), counts: to(1, 1, 1)}, 1},
		"four rounds":        {[]api.Block{{Next: to(1)}, {Ops: ops(constant(5, 4), bin(4, 2, api.Lt, 5)), Cond: 4, Next: to(2, 3)}, {Ops: count, Next: to(1)}, {}}, after{vars: to(7, -3, 4, 0), counts: to(1, 5, 4, 1)}, 18},
		"a block to itself":  {[]api.Block{{Next: to(1)}, {Ops: ops(constant(5, 1), bin(0, 0, api.Sub, 5)), Cond: 0, Next: to(1, 2)}, {}}, after{vars: to(0, -3, 0, 0), counts: to(1, 7, 1)}, 14},
		"the other way":      {[]api.Block{{Next: to(1)}, {Ops: ops(constant(5, 1), bin(1, 1, api.Add, 5), bin(5, 1, api.Eq, 4)), Cond: 5, Next: to(2, 1)}, {}}, after{vars: to(7, 0, 0, 0), counts: to(1, 3, 1)}, 9},
		"two ways in a loop": {[]api.Block{{Next: to(1)}, {Ops: ops(constant(5, 1), bin(0, 0, api.Sub, 5), bin(4, 0, api.And, 5)), Cond: 4, Next: to(2, 3)}, {Next: to(1)}, {Cond: 0, Next: to(1, 4)}, {}}, after{vars: to(0, -3, 0, 0), counts: to(1, 7, 3, 4, 1)}, 21},
	} {
		want := c.want.outcome(c.steps)
		most := c.steps
		for _, n := range want.Counts {
			most += n
		}
		// One less is not enough: what was carried out is exactly that much.
		for m, f := range map[int]api.Errno{most: api.OK, most + 1: api.OK, api.MaxSteps: api.OK, most - 1: api.ErrSteps, 0: api.ErrSteps} {
			o, e := Run(data(c.blocks...), to(7, -3), lists(), m)
			if e != f || e == api.OK && text(o) != text(want) || e != api.OK && text(o) != text(api.Outcome{}) {
				t.Errorf("%s, most %d: error %d\n     %+v\nnot: %+v", name, m, e, o, want)
			}
		}
	}
}

// TestCountsAndPoints has points that change nothing in a run, and heads whose Max it does not keep to.
func TestCountsAndPoints(t *testing.T) {
	g := data(api.Block{Next: to(1)}, api.Block{Ops: ops(constant(5, 1), bin(0, 0, api.Sub, 5)), Cond: 0, Next: to(1, 2)}, api.Block{})
	g.Points, g.Heads = [][]int{{2}, nil, {1}}, []api.Head{{Block: 1, Max: 0}}
	if o, e := Run(g, to(9, 0), lists(), 50); e != api.OK || !slices.Equal(o.Counts, to(1, 9, 1)) || o.Steps != 18 {
		t.Errorf("error %d, %+v", e, o)
	}
}

func TestGraphsWithoutData(t *testing.T) {
	for name, c := range map[string]struct {
		g    api.Graph
		want api.Outcome
	}{
		"nothing":      {api.Graph{Blocks: []api.Block{{}}}, api.Outcome{Counts: to(1)}},
		"no inputs":    {api.Graph{Vars: 2, Keep: 1, Blocks: []api.Block{{Ops: ops(constant(0, 4), constant(1, 5))}}}, api.Outcome{Vars: to(4), Counts: to(1), Steps: 2}},
		"nothing kept": {api.Graph{Vars: 2, Blocks: []api.Block{{Ops: ops(constant(0, 4))}}}, api.Outcome{Counts: to(1), Steps: 1}},
		"none is shared": {api.Graph{Vars: 1, Keep: 1, Arrays: []api.Array{{Size: 2}, {Size: 1}}, Blocks: []api.Block{{Ops: ops(constant(0, 4), store(0, 0, 0))}}},
			api.Outcome{Vars: to(4), Arrays: [][]int{{4, 0}, {0}}, Counts: to(1), Steps: 2}},
	} {
		for _, none := range [][]int{nil, {}} {
			if o, e := Run(c.g, none, [][]int{none}[:0], 9); e != api.OK || text(o) != text(c.want) {
				t.Errorf("%s: error %d, %+v", name, e, o)
			}
		}
	}
	g := api.Graph{Arrays: []api.Array{{Size: 2}, {Size: 1}}, Shared: 2, Blocks: []api.Block{{}}}
	if o, e := Run(g, nil, [][]int{{3, 4}, {-5}}, 1); e != api.OK || text(o) != text(api.Outcome{Shared: [][]int{{3, 4}, {-5}}, Counts: to(1)}) {
		t.Errorf("all are shared: error %d, %+v", e, o)
	}
	// The most variables and arrays that there can be.
	g = api.Graph{Inputs: slices.Repeat([]api.Input{{Lo: 3, Hi: 3}}, 64), Vars: 64, Keep: 64, Arrays: slices.Repeat([]api.Array{{Size: 16}}, 8), Shared: 8}
	g.Blocks = []api.Block{{Ops: ops(bin(63, 62, api.Mul, 0), constant(0, -1), store(7, 0, 63))}}
	in := slices.Repeat(to(3), 64)
	o, e := Run(g, in, slices.Repeat([][]int{make([]int, 16)}, 8), 4)
	if e != api.OK || o.Vars[63] != 9 || o.Vars[0] != -1 || o.Shared[7][15] != 9 || o.Shared[6][15] != 0 || o.Shared[7][14] != 0 {
		t.Errorf("the most data: error %d, %+v", e, o)
	}
}

// P13.1: locks

func TestLocks(t *testing.T) {
	row := func(list ...[]api.Op) []api.Block {
		l := make([]api.Block, len(list))
		for b := range list {
			l[b].Ops = list[b]
			if b < len(list)-1 {
				l[b].Next = to(b + 1)
			}
		}
		return l
	}
	for name, c := range map[string]struct {
		blocks []api.Block
		want   api.Errno
	}{
		"each one":                    {row(ops(lock(0)), ops(lock(1)), ops(lock(2)), ops(lock(3)), ops(unlock(0)), ops(unlock(1)), ops(unlock(2)), ops(unlock(3))), api.OK},
		"again":                       {row(ops(lock(1), unlock(1)), ops(lock(1), unlock(1)), ops(lock(1))), api.OK},
		"in other blocks":             {row(ops(lock(2)), ops(constant(2, 1)), ops(constant(2, 1), unlock(2)), ops(lock(2), unlock(2))), api.OK},
		"twice":                       {row(ops(lock(0)), ops(lock(0))), api.ErrLock},
		"the last one twice":          {row(ops(lock(3)), nil, ops(lock(3), unlock(3))), api.ErrLock},
		"twice around another":        {row(ops(lock(1)), ops(lock(2), unlock(2)), ops(lock(1))), api.ErrLock},
		"not held":                    {row(ops(unlock(0))), api.ErrLock},
		"the last one is not held":    {row(ops(constant(2, 1), unlock(3))), api.ErrLock},
		"another one is held":         {row(ops(lock(0), unlock(1))), api.ErrLock},
		"a greater one is held":       {row(ops(lock(3)), ops(unlock(2))), api.ErrLock},
		"unlocked twice":              {row(ops(lock(1), unlock(1)), ops(unlock(1))), api.ErrLock},
		"locked, unlocked and locked": {row(ops(lock(1), unlock(1)), ops(lock(1)), ops(lock(1))), api.ErrLock},
		"in a way that is not taken":  {[]api.Block{{Cond: 5, Next: to(1, 2)}, {Ops: ops(unlock(0)), Next: to(2)}, {}}, api.OK},
		"in a loop":                   {[]api.Block{{Next: to(1)}, {Ops: ops(lock(0), constant(4, 1), bin(0, 0, api.Sub, 4)), Cond: 0, Next: to(1, 2)}, {}}, api.ErrLock},
		"in each round":               {[]api.Block{{Next: to(1)}, {Ops: ops(lock(0), constant(4, 1), bin(0, 0, api.Sub, 4), unlock(0)), Cond: 0, Next: to(1, 2)}, {}}, api.OK},
	} {
		// A second run does not know what the first one held.
		for range 2 {
			o, e := Run(data(c.blocks...), to(7, -3), lists(), 99)
			if e != c.want || e != api.OK && text(o) != text(api.Outcome{}) {
				t.Errorf("%s: error %d, %+v", name, e, o)
			}
		}
	}
}

// TestWhatComesFirst has runs that end for both reasons, by how much they can do.
func TestWhatComesFirst(t *testing.T) {
	g := data(api.Block{Ops: ops(constant(2, 1)), Next: to(1)}, api.Block{Ops: ops(constant(2, 1), unlock(0)), Next: to(2)}, api.Block{})
	for most, want := range []api.Errno{api.ErrSteps, api.ErrSteps, api.ErrSteps, api.ErrSteps, api.ErrSteps, api.ErrLock, api.ErrLock} {
		if o, e := Run(g, to(7, -3), lists(), most); e != want || text(o) != text(api.Outcome{}) {
			t.Errorf("an unlock, most %d: error %d", most, e)
		}
	}
	g = data(api.Block{Ops: ops(lock(1)), Next: to(1)}, api.Block{Ops: ops(lock(1)), Next: to(2)}, api.Block{})
	for most, want := range []api.Errno{api.ErrSteps, api.ErrSteps, api.ErrSteps, api.ErrSteps, api.ErrLock, api.ErrLock} {
		if o, e := Run(g, to(7, -3), lists(), most); e != want || text(o) != text(api.Outcome{}) {
			t.Errorf("a lock, most %d: error %d", most, e)
		}
	}
}

// TestRunsWithoutEnd go round for as long as they can.
func TestRunsWithoutEnd(t *testing.T) {
	g := data(api.Block{Next: to(1)}, api.Block{Next: to(1)}, api.Block{})
	for _, most := range []int{0, 1, 2, 3, 1000, api.MaxSteps} {
		if o, e := Run(g, to(7, -3), lists(), most); e != api.ErrSteps || text(o) != text(api.Outcome{}) {
			t.Errorf("%d: error %d", most, e)
		}
	}
	// 19999 rounds of two, and the first and the last block: exactly the limit.
	g = data(api.Block{Next: to(1)}, api.Block{Ops: ops(bin(1, 1, api.Add, 0)), Cond: 1, Next: to(1, 2)}, api.Block{})
	if o, e := Run(g, to(1, -19999), lists(), api.MaxSteps); e != api.OK || o.Steps != 19999 || !slices.Equal(o.Counts, to(1, 19999, 1)) {
		t.Errorf("to the limit: error %d, %+v", e, o)
	}
	if o, e := Run(g, to(1, -20000), lists(), api.MaxSteps); e != api.ErrSteps || text(o) != text(api.Outcome{}) {
		t.Errorf("beyond the limit: error %d, %+v", e, o)
	}
}

// P13.1: errors

// broken are graphs that Check refuses.
func broken() map[string]api.Graph {
	return map[string]api.Graph{
		"nothing":            {},
		"two ends":           data(api.Block{}, api.Block{}),
		"no end":             data(api.Block{Next: to(1)}, api.Block{Next: to(1)}),
		"back to the first":  data(api.Block{Cond: 0, Next: to(0, 1)}, api.Block{}),
		"no variable":        data(api.Block{Ops: ops(move(2, 6))}),
		"no array":           data(api.Block{Ops: ops(load(2, 4, 0))}),
		"a lock behind":      data(api.Block{Ops: ops(move(2, 1), lock(0))}),
		"a point":            {Blocks: []api.Block{{}}, Points: [][]int{{1}}},
		"a head":             {Blocks: []api.Block{{}}, Heads: []api.Head{{Block: 1}}},
		"more shared arrays": {Blocks: []api.Block{{}}, Shared: 1},
		"no size":            {Blocks: []api.Block{{}}, Arrays: []api.Array{{}}},
		"no range":           {Vars: 1, Keep: 1, Inputs: []api.Input{{Lo: 1}}, Blocks: []api.Block{{}}},
	}
}

// large are graphs that are beyond a limit.
func large() map[string]api.Graph {
	return map[string]api.Graph{
		"variables":  {Vars: 65, Blocks: []api.Block{{}}},
		"blocks":     {Blocks: make([]api.Block, 65)},
		"operations": {Vars: 1, Blocks: []api.Block{{Ops: slices.Repeat(ops(move(0, 0)), 601)}}},
		"arrays":     {Arrays: slices.Repeat([]api.Array{{Size: 2}}, 9), Blocks: []api.Block{{}}},
		"points":     {Points: make([][]int, 40), Blocks: []api.Block{{}}},
	}
}

// TestErrorsInTheirOrder has each error alone, and with all that come behind it.
func TestErrorsInTheirOrder(t *testing.T) {
	good := data(api.Block{Ops: ops(unlock(0))})
	fails := func(name string, g api.Graph, in []int, shared [][]int, most int, want api.Errno) {
		t.Helper()
		if o, e := Run(g, in, shared, most); e != want || text(o) != text(api.Outcome{}) {
			t.Errorf("%s: error %d, not %d, %+v", name, e, want, o)
		}
	}
	for name, g := range broken() {
		fails(name, g, to(7, -3), lists(), 50, api.ErrForm)
		fails(name, g, nil, nil, -1, api.ErrForm)
	}
	for name, g := range large() {
		fails(name, g, to(7, -3), lists(), 50, api.ErrLimit)
		fails(name, g, nil, nil, -1, api.ErrLimit)
	}
	for name, in := range map[string][]int{
		"none": nil, "one": to(7), "three": to(7, -3, 0), "many": make([]int, 5000),
		"less": to(-11, 0), "more": to(11, 0), "the least": to(math.MinInt, 0), "the greatest": to(math.MaxInt, 0),
		"the last is less": to(0, math.MinInt32-1), "the last is more": to(0, math.MaxInt32+1), "more by 2^32": to(7, 1<<32-3),
	} {
		fails(name, good, in, lists(), 50, api.ErrInput)
		fails(name, good, in, nil, -1, api.ErrInput)
	}
	for name, shared := range map[string][][]int{
		"none": nil, "one": lists()[:1], "three": append(lists(), to(0)), "all arrays": append([][]int{{0}, {0, 0, 0, 0}}, lists()...),
		"exchanged": {lists()[1], lists()[0]}, "empty": {nil, lists()[1]}, "an empty one": {lists()[0], {}}, "too short": {{5}, lists()[1]},
		"too long": {{5, 6, 7}, lists()[1]}, "the last is too short": {lists()[0], lists()[1][:7]}, "the last is too long": {lists()[0], append(lists()[1], 0)},
		"no word": {{1 << 31, 0}, lists()[1]}, "no word, at the end": {{0, -1<<31 - 1}, lists()[1]},
		"the greatest number": {lists()[0], {0, 0, 0, 0, 0, 0, 0, math.MaxInt}}, "a word and 2^32": {lists()[0], {1 << 32, 0, 0, 0, 0, 0, 0, 0}},
	} {
		fails(name, good, to(7, -3), shared, 50, api.ErrForm)
		fails(name, good, to(7, -3), shared, -1, api.ErrForm)
		fails(name, good, to(7, 1<<31), shared, api.MaxSteps+1, api.ErrInput)
	}
	for _, most := range []int{-1, -2, math.MinInt, api.MaxSteps + 1, 2 * api.MaxSteps, math.MaxInt} {
		fails("most", good, to(7, -3), lists(), most, api.ErrRange)
		fails("most, by itself", data(api.Block{}), to(7, -3), lists(), most, api.ErrRange)
	}
	fails("nothing but the lock", good, to(7, -3), lists(), 2, api.ErrLock)
	fails("not so far", good, to(7, -3), lists(), 1, api.ErrSteps)
}

func TestEndsOfRanges(t *testing.T) {
	g := data(api.Block{})
	for _, in := range [][]int{{-10, math.MinInt32}, {10, math.MaxInt32}, {0, 0}} {
		if o, e := Run(g, in, lists(), 1); e != api.OK || !slices.Equal(o.Vars, to(in[0], in[1], 0, 0)) {
			t.Errorf("%v: error %d, %v", in, e, o.Vars)
		}
	}
	l := [][]int{{math.MinInt32, math.MaxInt32}, {math.MaxInt32, 0, 0, 0, 0, 0, 0, math.MinInt32}}
	if o, e := Run(g, to(0, 0), l, 1); e != api.OK || text(o.Shared) != text(l) {
		t.Errorf("error %d, %v", e, o.Shared)
	}
}

// TestOutcomesAreNew changes what was given and what was returned: nothing else changes.
func TestOutcomesAreNew(t *testing.T) {
	g := data(api.Block{Ops: ops(store(1, 1, 0), store(2, 0, 1), store(3, 1, 0), bin(0, 0, api.Add, 1))})
	g.Points = [][]int{{0}}
	in, l := to(7, -3), lists()
	before := text(g)
	o, e := Run(g, in, l, 9)
	want := text(o)
	if e != api.OK || text(g) != before || !slices.Equal(in, to(7, -3)) || text(l) != text(lists()) {
		t.Errorf("error %d, %v, %v, %+v", e, in, l, g)
	}
	in[0], l[0][0], l[1][7] = 1, 1, 1
	g.Inputs[0].Lo, g.Arrays[0].Size, g.Blocks[0].Ops[0] = 0, 8, constant(2, 2)
	if text(o) != want {
		t.Errorf("%+v, not %s", o, want)
	}
	fields := slices.Concat([][]int{o.Vars, o.Counts}, o.Arrays, o.Shared)
	for i, list := range fields {
		others := text(slices.Concat(fields[:i], fields[i+1:]))
		for n := range list {
			list[n] = -99
		}
		_ = append(list, -99)
		if text(slices.Concat(fields[:i], fields[i+1:])) != others {
			t.Errorf("the list %d has changed others", i)
		}
	}
	first := text(o.Shared)
	_ = append(o.Arrays, to(-99))
	if text(o.Shared) != first {
		t.Error("arrays behind the last one are shared ones")
	}
}

// P13.2: Points

func TestPoints(t *testing.T) {
	g := data(api.Block{Next: to(1)}, api.Block{Cond: 5, Next: to(2, 3)}, api.Block{Ops: ops(unlock(0)), Next: to(1)}, api.Block{})
	g.Points = [][]int{{0}, nil, {3, 1}, {0, 1, 2, 3}, {2}, {2}}
	before := text(g)
	for _, c := range []struct{ counts, want []int }{
		{to(1, 4, 3, 1), to(1, 0, 5, 9, 3, 3)},
		{to(0, 0, 0, 0), to(0, 0, 0, 0, 0, 0)},
		{to(8, 4, 2, 1), to(8, 0, 5, 15, 2, 2)},
		{to(1<<31, 1<<31, 1<<31, 1<<31), to(1<<31, 0, 1<<32, 1<<33, 1<<31, 1<<31)},
		{to(0, 0, 0, 1<<31), to(0, 0, 1<<31, 1<<31, 0, 0)},
	} {
		counts := slices.Clone(c.counts)
		if l, e := Points(g, c.counts); e != api.OK || !slices.Equal(l, c.want) || !slices.Equal(counts, c.counts) || text(g) != before {
			t.Errorf("%v: error %d, %v, not %v", counts, e, l, c.want)
		}
	}
	// As many points and blocks as there can be.
	g = api.Graph{Blocks: make([]api.Block, 64), Points: make([][]int, 39)}
	var all []int
	for b := range 63 {
		g.Blocks[b].Next = to(b + 1)
		all = append(all, b)
	}
	g.Points[38] = append(all, 63)
	if l, e := Points(g, slices.Repeat(to(1<<31), 64)); e != api.OK || len(l) != 39 || l[38] != 1<<37 || slices.Max(l[:38]) != 0 {
		t.Errorf("the most blocks: error %d, %v", e, l)
	}
	if l, e := Points(api.Graph{Blocks: []api.Block{{}}}, to(1)); e != api.OK || len(l) != 0 {
		t.Errorf("no points: error %d, %v", e, l)
	}
}

func TestErrorsOfPoints(t *testing.T) {
	g := data(api.Block{Next: to(1)}, api.Block{Next: to(2)}, api.Block{})
	g.Points = [][]int{{0}, {1}}
	for name, counts := range map[string][]int{
		"none": nil, "two": to(1, 1), "four": to(1, 1, 1, 1), "many": make([]int, 5000), "as many as points": to(1, 1),
		"below 0": to(-1, 1, 1), "the last is below 0": to(1, 1, -1), "too great": to(1, 1<<31+1, 1), "one of no point": to(1, 1, 1<<31+1),
		"the least": to(math.MinInt, 0, 0), "the greatest": to(0, 0, math.MaxInt), "more by 2^32": to(1<<32, 1, 1),
	} {
		if l, e := Points(g, counts); e != api.ErrRange || len(l) != 0 {
			t.Errorf("%s: error %d, %v", name, e, l)
		}
	}
	for want, graphs := range map[api.Errno]map[string]api.Graph{api.ErrForm: broken(), api.ErrLimit: large()} {
		for name, g := range graphs {
			for _, counts := range [][]int{nil, to(-1), make([]int, len(g.Blocks))} {
				if l, e := Points(g, counts); e != want || len(l) != 0 {
					t.Errorf("%s: error %d, %v", name, e, l)
				}
			}
		}
	}
}

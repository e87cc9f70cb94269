package dead

import (
	"fmt"
	"math"
	"slices"
	"strings"
	"testing"
	"timebound/api"
	"timebound/graph"
)

func to(l ...int) []int { return l }

func ops(l ...api.Op) []api.Op { return l }

func constant(dst, n int) api.Op { return api.Op{Kind: api.OpConst, Dst: dst, Imm: n} }

func move(dst, a int) api.Op { return api.Op{Kind: api.OpCopy, Dst: dst, A: a} }

func bin(dst, a, op, b int) api.Op { return api.Op{Kind: api.OpBin, Dst: dst, A: a, B: b, Imm: op} }

func load(dst, array, a int) api.Op { return api.Op{Kind: api.OpLoad, Dst: dst, A: a, Imm: array} }

func store(array, a, b int) api.Op { return api.Op{Kind: api.OpStore, A: a, B: b, Imm: array} }

func lock(resource int) api.Op { return api.Op{Kind: api.OpLock, Imm: resource} }

func unlock(resource int) api.Op { return api.Op{Kind: api.OpUnlock, Imm: resource} }

// data is a graph of blocks with the inputs 0 and 1, and the variables 2 to 5, of which the last three are not kept. Of its arrays the last two are shared.
func data(l ...api.Block) api.Graph {
	return api.Graph{
		Inputs: []api.Input{{Name: "x", Lo: -10, Hi: 10}, {Name: "y", Lo: math.MinInt32, Hi: math.MaxInt32}},
		Vars:   6, Keep: 3,
		Arrays: []api.Array{{Name: "a", Size: 1}, {Name: "b", Size: 4}, {Name: "c", Size: 2}, {Name: "d", Size: 8}}, Shared: 2,
		Blocks: l,
	}
}

// keeping is a graph of blocks with the variables 0 to 5, of which the first ones are kept.
func keeping(keep int, l ...api.Block) api.Graph {
	g := data(l...)
	g.Inputs, g.Keep = nil, keep
	return g
}

// text is all that a value has: nil and empty lists are the same.
func text(x any) string { return fmt.Sprintf("%+v", x) }

// show writes an operation: variables are numbers, and constants have a # before them. One with other fields than its kind has is written as it is.
func show(o api.Op) string {
	signs := []string{"", "+", "-", "*", "/", "%", "&", "|", "^", "<<", ">>", "<", "<=", "==", "!="}
	switch o {
	case constant(o.Dst, o.Imm):
		return fmt.Sprintf("%d=#%d", o.Dst, o.Imm)
	case move(o.Dst, o.A):
		return fmt.Sprintf("%d=%d", o.Dst, o.A)
	case bin(o.Dst, o.A, o.Imm, o.B):
		return fmt.Sprintf("%d=%d%s%d", o.Dst, o.A, signs[o.Imm], o.B)
	case load(o.Dst, o.Imm, o.A):
		return fmt.Sprintf("%d=a%d[%d]", o.Dst, o.Imm, o.A)
	case store(o.Imm, o.A, o.B):
		return fmt.Sprintf("a%d[%d]=%d", o.Imm, o.A, o.B)
	case lock(o.Imm):
		return fmt.Sprintf("lock %d", o.Imm)
	case unlock(o.Imm):
		return fmt.Sprintf("unlock %d", o.Imm)
	}
	return text(o)
}

// blocks writes the blocks of a graph, each one with its operations, Cond and successors.
func blocks(g api.Graph) string {
	var out []string
	for _, b := range g.Blocks {
		var l []string
		for _, o := range b.Ops {
			l = append(l, show(o))
		}
		if b.Cond != 0 || len(b.Next) > 1 {
			l = append(l, fmt.Sprint("by ", b.Cond))
		}
		if len(b.Next) > 0 {
			l = append(l, fmt.Sprint("to ", b.Next))
		}
		out = append(out, strings.Join(l, " "))
	}
	return strings.Join(out, "; ")
}

// reads reports whether an operation has a variable as an operand.
func reads(o api.Op, v int) bool {
	switch o.Kind {
	case api.OpCopy, api.OpLoad:
		return o.A == v
	case api.OpBin, api.OpStore:
		return o.A == v || o.B == v
	}
	return false
}

// writes reports whether an operation changes a variable.
func writes(o api.Op, v int) bool {
	return slices.Contains([]int{api.OpConst, api.OpCopy, api.OpBin, api.OpLoad}, o.Kind) && o.Dst == v
}

// needed goes all ways from a place, the one before the operation at of a block, as far as a variable is not a Dst, and reports whether one leads to where it is used.
func needed(g api.Graph, block, at, v int) bool {
	seen := make([][]bool, len(g.Blocks))
	for b := range g.Blocks {
		seen[b] = make([]bool, len(g.Blocks[b].Ops)+1)
	}
	var way func(block, at int) bool
	way = func(block, at int) bool {
		if seen[block][at] {
			return false
		}
		seen[block][at] = true
		b := g.Blocks[block]
		switch {
		case at < len(b.Ops):
			return reads(b.Ops[at], v) || !writes(b.Ops[at], v) && way(block, at+1)
		case len(b.Next) == 0:
			return v < g.Keep
		case len(b.Next) == 2 && b.Cond == v:
			return true
		}
		return slices.ContainsFunc(b.Next, func(n int) bool { return way(n, 0) })
	}
	return way(block, at)
}

// live returns the variables that are needed at the end of each block, and looks at all that is the same for all graphs: what was given has not changed, each block has a list of all variables, and it is right for each of them.
func live(t *testing.T, name string, g api.Graph) string {
	t.Helper()
	before := text(g)
	lists, e := Live(g)
	if e != api.OK || text(g) != before || len(lists) != len(g.Blocks) {
		t.Fatalf("%s: error %d, %v, %s\nbefore: %s", name, e, lists, text(g), before)
	}
	var out []string
	for b, list := range lists {
		if len(list) != g.Vars {
			t.Fatalf("%s: %d of %d variables", name, len(list), g.Vars)
		}
		l := []int{}
		for v, yes := range list {
			if yes {
				l = append(l, v)
			}
			if yes != needed(g, b, len(g.Blocks[b].Ops), v) {
				t.Fatalf("%s: %s: the variable %d behind block %d: %v", name, blocks(g), v, b, yes)
			}
		}
		out = append(out, text(l))
	}
	return strings.Join(out, " ")
}

// P15.1

// TestNeededByOperations has a block behind the first one, of which no variable is kept.
func TestNeededByOperations(t *testing.T) {
	for _, c := range []struct {
		ops  []api.Op
		want string
	}{
		{nil, "[]"},
		{ops(constant(3, 4)), "[]"},
		{ops(move(3, 4)), "[4]"},
		{ops(move(3, 0)), "[0]"},
		{ops(move(3, 5)), "[5]"},
		{ops(move(3, 3)), "[3]"},
		{ops(bin(3, 4, api.Sub, 5)), "[4 5]"},
		{ops(bin(3, 5, api.Sub, 4)), "[4 5]"},
		{ops(bin(3, 4, api.Sub, 4)), "[4]"},
		{ops(bin(3, 3, api.Add, 4)), "[3 4]"},
		{ops(bin(3, 4, api.Add, 3)), "[3 4]"},
		{ops(bin(3, 0, api.Add, 4)), "[0 4]"},
		{ops(load(3, 2, 4)), "[4]"},
		{ops(load(3, 2, 3)), "[3]"},
		{ops(store(3, 4, 5)), "[4 5]"},
		{ops(store(3, 5, 4)), "[4 5]"},
		{ops(store(3, 4, 4)), "[4]"},
		{ops(store(3, 0, 4)), "[0 4]"},
		{ops(lock(2)), "[]"},
		{ops(unlock(2)), "[]"},
		{ops(lock(2), move(3, 4), unlock(2)), "[4]"},
		// A Dst before ends the way, and one behind does not.
		{ops(constant(4, 1), move(3, 4)), "[]"},
		{ops(move(4, 5), move(3, 4)), "[5]"},
		{ops(bin(4, 5, api.Add, 2), move(3, 4)), "[2 5]"},
		{ops(load(4, 1, 5), move(3, 4)), "[5]"},
		{ops(move(3, 4), constant(4, 1)), "[4]"},
		{ops(move(3, 4), constant(3, 1)), "[4]"},
		{ops(constant(3, 1), move(3, 4)), "[4]"},
		{ops(move(4, 4), move(3, 4)), "[4]"},
		{ops(bin(4, 4, api.Mul, 4), move(3, 4)), "[4]"},
		{ops(move(5, 4), constant(4, 1), store(0, 4, 5)), "[4]"},
		{ops(constant(4, 1), constant(5, 1), store(0, 4, 5)), "[]"},
		{ops(constant(5, 1), store(0, 4, 5)), "[4]"},
		{ops(constant(4, 1), store(0, 4, 5)), "[5]"},
		// A store, a lock and an unlock have no Dst, and elements are no variables.
		{ops(store(0, 4, 5), move(3, 0)), "[0 4 5]"},
		{ops(lock(0), move(3, 0)), "[0]"},
		{ops(move(3, 0), unlock(0)), "[0]"},
		{ops(store(0, 4, 5), load(3, 0, 4)), "[4 5]"},
		// All are needed that are used anywhere.
		{ops(move(0, 1), move(0, 2), move(0, 3), move(0, 4), move(0, 5)), "[1 2 3 4 5]"},
		{ops(move(1, 0), move(2, 1), move(3, 2), move(4, 3), move(5, 4)), "[0]"},
		{ops(move(5, 4), move(4, 3), move(3, 2), move(2, 1), move(1, 0)), "[0 1 2 3 4]"},
	} {
		if got := live(t, "operations", keeping(0, api.Block{Next: to(1)}, api.Block{Ops: c.ops})); got != c.want+" []" {
			t.Errorf("%v: %s, not %s", c.ops, got, c.want)
		}
	}
}

// TestNeededByBlocks has ways through several blocks.
func TestNeededByBlocks(t *testing.T) {
	use := func(v int, next ...int) api.Block { return api.Block{Ops: ops(store(0, v, v)), Next: next} }
	set := func(v int, next ...int) api.Block { return api.Block{Ops: ops(constant(v, 1)), Next: next} }
	by := func(cond int, next ...int) api.Block { return api.Block{Cond: cond, Next: next} }
	none := func(next ...int) api.Block { return api.Block{Next: next} }
	for name, c := range map[string]struct {
		graph api.Graph
		want  string
	}{
		"nothing":             {keeping(0, none()), "[]"},
		"kept":                {keeping(2, none()), "[0 1]"},
		"all are kept":        {keeping(6, none()), "[0 1 2 3 4 5]"},
		"kept, changed there": {keeping(2, api.Block{Ops: ops(constant(0, 1), constant(1, 1))}), "[0 1]"},
		"kept, before":        {keeping(2, none(1), none()), "[0 1] [0 1]"},
		"kept, changed later": {keeping(3, none(1), set(1)), "[0 2] [0 1 2]"},
		"kept, a long way":    {keeping(2, set(0, 1), set(1, 2), none(3), none()), "[0] [0 1] [0 1] [0 1]"},
		"used at its own end": {keeping(0, use(3, 1), none()), "[] []"},
		"a condition":         {keeping(0, by(3, 1, 2), none(2), none()), "[3] [] []"},
		"the condition 0":     {keeping(0, by(0, 1, 2), none(2), none()), "[0] [] []"},
		"a condition behind":  {keeping(0, none(1), by(3, 2, 3), none(3), none()), "[3] [3] [] []"},
		"it is changed there": {keeping(0, none(1), api.Block{Ops: ops(constant(3, 1)), Cond: 3, Next: to(2, 3)}, none(3), none()), "[] [3] [] []"},
		// Without two successors Cond is 0, and not the variable 0.
		"no condition":      {keeping(0, none(1), none()), "[] []"},
		"only the first":    {keeping(0, by(5, 1, 2), use(3, 3), use(4, 3), none()), "[3 4 5] [] [] []"},
		"one way sets it":   {keeping(0, by(5, 1, 2), set(3, 3), none(3), use(3)), "[3 5] [3] [3] []"},
		"both ways set it":  {keeping(0, by(5, 1, 2), set(3, 3), set(3, 3), use(3)), "[5] [3] [3] []"},
		"a loop":            {keeping(0, none(1), by(5, 2, 3), use(3, 1), none()), "[3 5] [3 5] [3 5] []"},
		"set in a loop":     {keeping(0, none(1), by(5, 2, 3), set(3, 1), use(3)), "[3 5] [3 5] [3 5] []"},
		"around a loop":     {keeping(0, set(3, 1), by(5, 2, 4), use(3, 3), set(3, 1), none()), "[3 5] [3 5] [5] [3 5] []"},
		"in itself":         {keeping(0, none(1), api.Block{Ops: ops(move(4, 3), constant(3, 1)), Cond: 5, Next: to(1, 2)}, none()), "[3 5] [3 5] []"},
		"its own counter":   {keeping(0, none(1), api.Block{Ops: ops(bin(4, 4, api.Add, 3)), Cond: 5, Next: to(1, 2)}, none()), "[3 4 5] [3 4 5] []"},
		"in the other row":  {keeping(1, none(3), none(), set(4, 1), api.Block{Ops: ops(move(3, 4)), Next: to(2)}), "[0 4] [0] [0] [0]"},
		"a cycle backwards": {keeping(0, none(4), by(5, 4, 5), none(1), none(2), none(3), use(3)), "[3 5] [3 5] [3 5] [3 5] [3 5] []"},
		// Ways are ways, whether something is reached or not.
		"not reached":             {keeping(1, none(2), use(3, 2), none()), "[0] [0] [0]"},
		"before what is used":     {keeping(1, none(3), none(2), use(3, 3), none()), "[0] [0 3] [0] [0]"},
		"the end is not reached":  {keeping(2, none(1), use(3, 1), none()), "[3] [3] [0 1]"},
		"a loop beside it":        {keeping(2, none(1), none(1), none(3), by(4, 2, 4), none()), "[] [] [0 1 4] [0 1 4] [0 1]"},
		"a loop without anything": {keeping(6, none(1), none(1), none()), "[] [] [0 1 2 3 4 5]"},
	} {
		if got := live(t, name, c.graph); got != c.want {
			t.Errorf("%s: %s\nnot %s", name, got, c.want)
		}
	}
}

// TestNeededAtTheLimits has no variable, and as many as there can be.
func TestNeededAtTheLimits(t *testing.T) {
	if got := live(t, "none", api.Graph{Blocks: []api.Block{{Next: to(1)}, {}}}); got != "[] []" {
		t.Error(got)
	}
	all := make([]int, 64)
	for v := range all {
		all[v] = v
	}
	for keep := range 65 {
		g := api.Graph{Vars: 64, Keep: keep, Blocks: []api.Block{{Next: to(1)}, {}}}
		if got, want := live(t, "kept", g), text(all[:keep]); got != want+" "+want {
			t.Errorf("%d: %s", keep, got)
		}
		if keep == 64 {
			continue
		}
		// One after the other is used, changed, and a condition.
		g.Blocks = []api.Block{{Next: to(1)}, {Ops: ops(move(0, keep)), Next: to(2)}, {Ops: ops(constant(keep, 1)), Cond: keep, Next: to(3, 4)}, {Next: to(4)}, {}}
		live(t, "one by one", g)
	}
	x := greatest()
	want := strings.TrimSpace(strings.Repeat(text(all)+" ", 64))
	if got := live(t, "the greatest", x); got != want {
		t.Error(got)
	}
}

// greatest is a graph that is as large as a graph can be. All variables are kept.
func greatest() api.Graph {
	g := api.Graph{Inputs: make([]api.Input, 64), Vars: 64, Keep: 64, Arrays: slices.Repeat([]api.Array{{Size: 16}}, 8), Shared: 8}
	g.Blocks, g.Points = make([]api.Block, 64), slices.Repeat([][]int{{63, 0, 5}}, 39)
	for b := range 63 {
		g.Blocks[b] = api.Block{Ops: slices.Repeat(ops(bin(b, b, api.Add, 63)), 9), Cond: b, Next: to(b+1, 1)}
		g.Heads = append(g.Heads, api.Head{Block: b, Max: 4000})
	}
	g.Blocks[0].Cond, g.Blocks[0].Next = 0, to(1)
	g.Blocks[63].Ops = slices.Repeat(ops(bin(63, 63, api.Mul, 0)), 33)
	return g
}

// broken are graphs that Check refuses.
func broken() map[string]api.Graph {
	return map[string]api.Graph{
		"nothing":               {},
		"two ends":              data(api.Block{}, api.Block{}),
		"no end":                data(api.Block{Next: to(1)}, api.Block{Next: to(1)}),
		"back to the first":     data(api.Block{Cond: 0, Next: to(0, 1)}, api.Block{}),
		"no successor":          data(api.Block{Next: to(2)}, api.Block{}),
		"below the successors":  data(api.Block{Next: to(-1)}, api.Block{}),
		"wrong, not reached":    data(api.Block{Next: to(2)}, api.Block{Next: to(3)}, api.Block{}),
		"three successors":      data(api.Block{Next: to(1, 2, 3)}, api.Block{Next: to(2)}, api.Block{Next: to(3)}, api.Block{}),
		"twice the same":        data(api.Block{Next: to(1, 1)}, api.Block{}),
		"no variable":           data(api.Block{Ops: ops(move(2, 6))}),
		"no Dst":                data(api.Block{Ops: ops(constant(-1, 6))}),
		"no condition":          data(api.Block{Cond: 6, Next: to(1, 2)}, api.Block{Next: to(2)}, api.Block{}),
		"below the conditions":  data(api.Block{Cond: -1, Next: to(1, 2)}, api.Block{Next: to(2)}, api.Block{}),
		"a condition alone":     data(api.Block{Cond: 1, Next: to(1)}, api.Block{}),
		"no word":               data(api.Block{Ops: ops(constant(5, 1<<31))}),
		"no operator":           data(api.Block{Ops: ops(bin(5, 2, 15, 2))}),
		"no kind":               data(api.Block{Ops: ops(api.Op{Kind: 8})}),
		"a field of none":       data(api.Block{Ops: ops(api.Op{Kind: api.OpCopy, B: 1})}),
		"a Dst of a store":      data(api.Block{Ops: ops(api.Op{Kind: api.OpStore, Dst: 1})}),
		"no array":              data(api.Block{Ops: ops(load(5, 4, 0))}),
		"a lock behind":         data(api.Block{Ops: ops(constant(5, 1), lock(0))}),
		"an unlock in front":    data(api.Block{Ops: ops(unlock(0), constant(5, 1))}),
		"a point":               {Blocks: []api.Block{{}}, Points: [][]int{{1}}},
		"a point twice":         {Blocks: []api.Block{{}}, Points: [][]int{{0, 0}}},
		"a head":                {Blocks: []api.Block{{}}, Heads: []api.Head{{Block: 1}}},
		"a head below":          {Blocks: []api.Block{{}}, Heads: []api.Head{{Block: -1}}},
		"more are kept":         {Vars: 1, Keep: 2, Blocks: []api.Block{{}}},
		"less than no variable": {Vars: -1, Keep: -1, Blocks: []api.Block{{}}},
		"more shared arrays":    {Blocks: []api.Block{{}}, Shared: 1},
		"no size":               {Blocks: []api.Block{{}}, Arrays: []api.Array{{}}},
		"no range":              {Vars: 1, Keep: 1, Inputs: []api.Input{{Lo: 1}}, Blocks: []api.Block{{}}},
		"more inputs than kept": {Vars: 1, Inputs: []api.Input{{}}, Blocks: []api.Block{{}}},
	}
}

// large are graphs that are beyond a limit, some of them wrong in another way, too, or not if what is not needed were left out.
func large() map[string]api.Graph {
	return map[string]api.Graph{
		"variables":          {Vars: 65, Blocks: []api.Block{{Next: to(1)}}},
		"variables alone":    {Vars: 65, Blocks: []api.Block{{}}},
		"blocks":             {Blocks: make([]api.Block, 65)},
		"blocks not reached": {Blocks: append([]api.Block{{}}, slices.Repeat([]api.Block{{Next: to(1)}}, 64)...)},
		"operations":         {Vars: 1, Blocks: []api.Block{{Ops: slices.Repeat(ops(constant(0, 0)), 601)}}},
		"arrays":             {Arrays: make([]api.Array, 9), Blocks: []api.Block{{}}},
		"points":             {Points: slices.Repeat([][]int{{1}}, 40), Blocks: []api.Block{{}}},
	}
}

func TestErrorsOfLive(t *testing.T) {
	for want, graphs := range map[api.Errno]map[string]api.Graph{api.ErrForm: broken(), api.ErrLimit: large()} {
		for name, g := range graphs {
			before := text(g)
			l, e := Live(g)
			if e != want || e != graph.Check(g) || len(l) != 0 || text(g) != before {
				t.Errorf("%s: error %d, not %d, %v", name, e, want, l)
			}
		}
	}
}

// TestListsOfLiveAreNew changes what was returned, list by list: nothing else changes.
func TestListsOfLiveAreNew(t *testing.T) {
	g := data(api.Block{Ops: ops(move(3, 4)), Cond: 5, Next: to(1, 2)}, api.Block{Next: to(2)}, api.Block{Ops: ops(move(0, 5))})
	before := text(g)
	l, _ := Live(g)
	want := text(l)
	for b := range l {
		others := text([][][]bool{l[:b], l[b+1:]})
		for v := range l[b] {
			l[b][v] = !l[b][v]
		}
		_ = append(l[b], true, true)
		if text([][][]bool{l[:b], l[b+1:]}) != others {
			t.Errorf("the list %d has changed others", b)
		}
	}
	if text(g) != before {
		t.Error("the graph has changed")
	}
	if again, e := Live(g); e != api.OK || text(again) != want {
		t.Errorf("again: error %d, %v", e, again)
	}
}

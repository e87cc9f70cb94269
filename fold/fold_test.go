package fold

import (
	"fmt"
	"math"
	"slices"
	"strings"
	"testing"
	"timebound/api"
	"timebound/graph"
	"timebound/word"
)

func to(l ...int) []int { return l }

func ops(l ...api.Op) []api.Op { return l }

func constant(dst, n int) api.Op { return api.Op{Kind: api.OpConst, Dst: dst, Imm: n} }

func move(dst, a int) api.Op { return api.Op{Kind: api.OpCopy, Dst: dst, A: a} }

func bin(dst, a, op, b int) api.Op { return api.Op{Kind: api.OpBin, Dst: dst, A: a, B: b, Imm: op} }

func load(dst, array, a int) api.Op { return api.Op{Kind: api.OpLoad, Dst: dst, A: a, Imm: array} }

func store(array, a, b int) api.Op { return api.Op{Kind: api.OpStore, A: a, B: b, Imm: array} }

func lock(resource int) api.Op { return api.Op{Kind: api.OpLock, Imm: resource} }

func unlock(resource int) api.Op { return api.Op{Kind: api.OpUnlock, Imm: resource} }

// data is a graph of blocks with the inputs 0 and 1, and the variables 2 to 5, of which the last two are not kept. Of its arrays the last two are shared.
func data(l ...api.Block) api.Graph {
	return api.Graph{
		Inputs: []api.Input{{Name: "x", Lo: -10, Hi: 10}, {Name: "y", Lo: math.MinInt32, Hi: math.MaxInt32}},
		Vars:   6, Keep: 4,
		Arrays: []api.Array{{Name: "a", Size: 1}, {Name: "b", Size: 4}, {Name: "c", Size: 2}, {Name: "d", Size: 8}}, Shared: 2,
		Blocks: l,
	}
}

// text is all that a value has: nil and empty lists are the same.
func text(x any) string { return fmt.Sprintf("%+v", x) }

// show writes an operation: variables are numbers, and constants have a # before them. One with other fields than its kind has is written as it is.
func show(o api.Op) string {
	signs := []string{"", "+", "-", "*", "/", "%", "&", "|", "^", "<<", ">>", "<", "<=", "==", "!="}
	switch o {
	case constant(o.Dst, o.Imm):
		return fmt.Sprintf("%d=#%d", o.Dst, o.Imm)
	case move(o.Dst, o.A):
		return fmt.Sprintf("%d=%d", o.Dst, o.A)
	case bin(o.Dst, o.A, o.Imm, o.B):
		return fmt.Sprintf("%d=%d%s%d", o.Dst, o.A, signs[o.Imm], o.B)
	case load(o.Dst, o.Imm, o.A):
		return fmt.Sprintf("%d=a%d[%d]", o.Dst, o.Imm, o.A)
	case store(o.Imm, o.A, o.B):
		return fmt.Sprintf("a%d[%d]=%d", o.Imm, o.A, o.B)
	case lock(o.Imm):
		return fmt.Sprintf("lock %d", o.Imm)
	case unlock(o.Imm):
		return fmt.Sprintf("unlock %d", o.Imm)
	}
	return text(o)
}

// blocks writes the blocks of a graph, each one with its operations, Cond and successors.
func blocks(g api.Graph) string {
	var out []string
	for _, b := range g.Blocks {
		var l []string
		for _, o := range b.Ops {
			l = append(l, show(o))
		}
		if b.Cond != 0 || len(b.Next) > 1 {
			l = append(l, fmt.Sprint("by ", b.Cond))
		}
		if len(b.Next) > 0 {
			l = append(l, fmt.Sprint("to ", b.Next))
		}
		out = append(out, strings.Join(l, " "))
	}
	return strings.Join(out, "; ")
}

// folded folds a graph, and looks at all that is the same for all of them: what was given has not changed, the result is valid, only blocks are other ones, the map names each block, and folding once more changes nothing.
func folded(t *testing.T, name string, g api.Graph) api.Graph {
	t.Helper()
	before := text(g)
	x, to, e := Fold(g)
	if e != api.OK || text(g) != before {
		t.Fatalf("%s: error %d, %s\nbefore: %s", name, e, text(g), before)
	}
	if e := graph.Check(x); e != api.OK {
		t.Fatalf("%s: check %d of %s", name, e, text(x))
	}
	others := x
	others.Blocks = g.Blocks
	if text(others) != before || len(x.Blocks) != len(g.Blocks) {
		t.Fatalf("%s: %s\nnot %s", name, text(x), before)
	}
	for b, list := range to {
		if !slices.Equal(list, []int{b}) {
			t.Fatalf("%s: the map %v", name, to)
		}
	}
	if len(to) != len(g.Blocks) {
		t.Fatalf("%s: the map %v of %d blocks", name, to, len(g.Blocks))
	}
	if y, _, e := Fold(x); e != api.OK || text(y) != text(x) {
		t.Fatalf("%s: once more, error %d, %s\nnot %s", name, e, blocks(y), blocks(x))
	}
	return x
}

// P14.1: operations

// TestOperations has tables of the operations of a block.
func TestOperations(t *testing.T) {
	for name, table := range map[string][]struct {
		ops  []api.Op
		want string
	}{
		"nothing is known": {
			{nil, ""},
			{ops(constant(2, 5)), "2=#5"},
			{ops(move(2, 0)), "2=0"},
			{ops(bin(2, 0, api.Sub, 1)), "2=0-1"},
			{ops(bin(2, 0, api.Sub, 0)), "2=0-0"},
			{ops(bin(0, 0, api.Xor, 0)), "0=0^0"},
			{ops(load(2, 3, 0)), "2=a3[0]"},
			{ops(store(3, 0, 1)), "a3[0]=1"},
			{ops(lock(3)), "lock 3"},
			{ops(unlock(2)), "unlock 2"},
			{ops(lock(0), unlock(0)), "lock 0 unlock 0"},
			// What is 0 at the beginning of a job is not known.
			{ops(move(2, 5), bin(3, 5, api.Add, 4)), "2=5 3=5+4"},
		},
		"known variables": {
			{ops(constant(0, 2), constant(1, 3), bin(2, 0, api.Add, 1)), "0=#2 1=#3 2=#5"},
			{ops(constant(0, 2), constant(1, 3), bin(2, 0, api.Sub, 1)), "0=#2 1=#3 2=#-1"},
			{ops(constant(0, 2), bin(2, 0, api.Mul, 0)), "0=#2 2=#4"},
			{ops(constant(4, 9), move(2, 4)), "4=#9 2=#9"},
			{ops(constant(4, 0), move(2, 4)), "4=#0 2=#0"},
			{ops(constant(4, math.MinInt32), move(2, 4), move(3, 2)), "4=#-2147483648 2=#-2147483648 3=#-2147483648"},
			{ops(constant(4, 9), move(4, 4)), "4=#9 4=#9"},
			{ops(constant(4, 9), move(5, 4), bin(2, 4, api.Lt, 5)), "4=#9 5=#9 2=#0"},
			{ops(constant(0, 3), bin(0, 0, api.Mul, 0), bin(0, 0, api.Mul, 0)), "0=#3 0=#9 0=#81"},
			{ops(constant(5, 1), constant(4, 2), bin(4, 4, api.Shl, 5), bin(5, 5, api.Sub, 4)), "5=#1 4=#2 4=#4 5=#-3"},
			{ops(constant(1, 4), constant(1, 5), move(2, 1)), "1=#4 1=#5 2=#5"},
			{ops(constant(1, 4), constant(3, 6), constant(1, 4), bin(2, 3, api.Or, 1)), "1=#4 3=#6 1=#4 2=#6"},
		},
		"one operand is known": {
			{ops(constant(0, 2), bin(2, 0, api.Add, 1)), "0=#2 2=0+1"},
			{ops(constant(1, 2), bin(2, 0, api.Add, 1)), "1=#2 2=0+1"},
			{ops(constant(0, 0), bin(2, 0, api.Mul, 1), bin(3, 1, api.And, 0)), "0=#0 2=0*1 3=1&0"},
			{ops(constant(0, 2), bin(0, 0, api.Add, 1), move(2, 0)), "0=#2 0=0+1 2=0"},
		},
		"no longer known": {
			{ops(constant(0, 2), load(0, 1, 4), move(2, 0)), "0=#2 0=a1[4] 2=0"},
			{ops(constant(0, 2), load(0, 1, 0), bin(2, 0, api.Add, 0)), "0=#2 0=a1[0] 2=0+0"},
			{ops(constant(0, 2), move(0, 1), bin(2, 0, api.Add, 0)), "0=#2 0=1 2=1+1"},
			{ops(constant(0, 2), bin(0, 1, api.Add, 1), move(2, 0)), "0=#2 0=1+1 2=0"},
			{ops(constant(0, 2), move(3, 0), load(0, 1, 3), move(2, 3)), "0=#2 3=#2 0=a1[3] 2=#2"},
		},
		"indices and elements": {
			{ops(constant(0, 2), load(3, 1, 0), move(2, 3)), "0=#2 3=a1[0] 2=3"},
			{ops(constant(0, 2), store(1, 0, 0), load(3, 1, 0), bin(2, 3, api.Add, 3)), "0=#2 a1[0]=0 3=a1[0] 2=3+3"},
			{ops(load(2, 1, 0), load(3, 1, 0), bin(4, 2, api.Eq, 3)), "2=a1[0] 3=a1[0] 4=2==3"},
		},
		"copies": {
			{ops(move(2, 0), move(3, 2)), "2=0 3=0"},
			{ops(move(2, 0), bin(3, 2, api.Sub, 1)), "2=0 3=0-1"},
			{ops(move(2, 0), bin(3, 1, api.Sub, 2)), "2=0 3=1-0"},
			{ops(move(2, 0), move(3, 1), bin(4, 3, api.Sub, 2)), "2=0 3=1 4=1-0"},
			{ops(move(2, 1), bin(2, 2, api.Sub, 2)), "2=1 2=1-1"},
			{ops(move(2, 1), load(3, 1, 2)), "2=1 3=a1[1]"},
			{ops(move(2, 1), load(2, 1, 2), move(3, 2)), "2=1 2=a1[1] 3=2"},
			{ops(move(2, 1), store(1, 2, 3)), "2=1 a1[1]=3"},
			{ops(move(2, 1), store(1, 3, 2)), "2=1 a1[3]=1"},
			{ops(move(2, 0), move(3, 1), store(1, 2, 3)), "2=0 3=1 a1[0]=1"},
			{ops(move(5, 4), move(3, 5), move(2, 3), store(0, 2, 5)), "5=4 3=4 2=4 a0[4]=4"},
			{ops(move(0, 5), move(1, 0), move(2, 1)), "0=5 1=5 2=5"},
			{ops(move(2, 1), move(2, 1), move(3, 2)), "2=1 2=1 3=1"},
			{ops(move(2, 0), move(2, 1), move(3, 2)), "2=0 2=1 3=1"},
			{ops(move(2, 1), move(2, 2), move(3, 2)), "2=1 2=1 3=1"},
			// It is not known that two variables are equal if neither was copied to the other.
			{ops(move(2, 0), move(3, 0), bin(4, 2, api.Eq, 3)), "2=0 3=0 4=0==0"},
		},
		"no longer copies": {
			{ops(move(2, 0), load(2, 1, 4), move(3, 2)), "2=0 2=a1[4] 3=2"},
			{ops(move(2, 0), bin(2, 1, api.Add, 1), store(1, 2, 2)), "2=0 2=1+1 a1[2]=2"},
			{ops(move(2, 0), constant(2, 7), move(3, 2)), "2=0 2=#7 3=#7"},
			{ops(move(2, 0), load(0, 1, 4), move(3, 2)), "2=0 0=a1[4] 3=2"},
			{ops(move(2, 0), bin(0, 0, api.Add, 2), store(1, 0, 2)), "2=0 0=0+0 a1[0]=2"},
			{ops(move(2, 0), constant(0, 5), move(3, 2)), "2=0 0=#5 3=2"},
			{ops(move(2, 0), move(0, 1), move(3, 2)), "2=0 0=1 3=2"},
			// Both are copies of one that changes, and copies of one another no more than before.
			{ops(move(2, 0), move(3, 2), constant(0, 1), bin(4, 2, api.Add, 3)), "2=0 3=0 0=#1 4=2+3"},
			{ops(move(2, 0), move(3, 2), load(2, 1, 0), move(4, 3)), "2=0 3=0 2=a1[0] 4=0"},
			{ops(move(2, 0), move(3, 1), move(0, 4), store(1, 2, 3)), "2=0 3=1 0=4 a1[2]=1"},
			// A copy of a variable to itself is none, and a new Dst all the same.
			{ops(move(2, 0), move(0, 2), move(3, 2)), "2=0 0=0 3=2"},
			{ops(move(2, 0), move(0, 0), move(3, 2), move(4, 0)), "2=0 0=0 3=2 4=0"},
			{ops(move(0, 0), bin(2, 0, api.Add, 0)), "0=0 2=0+0"},
			{ops(move(4, 0), move(0, 1), move(1, 4)), "4=0 0=1 1=4"},
			{ops(move(4, 0), move(0, 1), move(1, 4), bin(2, 0, api.Sub, 1)), "4=0 0=1 1=4 2=0-4"},
		},
		"copies and words": {
			{ops(move(2, 0), constant(3, 1), bin(4, 2, api.Add, 3)), "2=0 3=#1 4=0+3"},
			{ops(move(2, 0), constant(2, 1), bin(4, 2, api.Add, 2)), "2=0 2=#1 4=#2"},
			{ops(constant(2, 1), move(2, 0), bin(4, 2, api.Add, 2)), "2=#1 2=0 4=0+0"},
			{ops(constant(0, 1), move(2, 0), load(0, 0, 1), bin(4, 2, api.Add, 2)), "0=#1 2=#1 0=a0[1] 4=#2"},
			{ops(constant(0, 1), move(2, 0), store(0, 2, 2)), "0=#1 2=#1 a0[2]=2"},
			{ops(constant(0, 1), move(2, 0), load(3, 0, 2)), "0=#1 2=#1 3=a0[2]"},
		},
		"what is no variable": {
			// The variable 0 is known, or a copy: no Dst of a store, a lock or an unlock is it.
			{ops(constant(0, 7), store(1, 4, 5), move(2, 0)), "0=#7 a1[4]=5 2=#7"},
			{ops(move(0, 1), store(1, 4, 5), move(2, 0)), "0=1 a1[4]=5 2=1"},
			{ops(move(4, 0), store(1, 1, 5), move(2, 4)), "4=0 a1[1]=5 2=0"},
			{ops(move(0, 1), constant(2, 6)), "0=1 2=#6"},
			{ops(move(0, 1), move(2, 3)), "0=1 2=3"},
			{ops(move(0, 1), load(2, 3, 4)), "0=1 2=a3[4]"},
			{ops(move(0, 1), unlock(0)), "0=1 unlock 0"},
			{ops(constant(0, 7), unlock(0)), "0=#7 unlock 0"},
			{ops(lock(0), move(2, 0), constant(0, 3), unlock(0)), "lock 0 2=0 0=#3 unlock 0"},
			// Words, arrays, operators and resources are no variables, whatever their numbers are.
			{ops(move(3, 1), constant(2, 3), load(2, 3, 4), store(3, 4, 5), unlock(3)), "3=1 2=#3 2=a3[4] a3[4]=5 unlock 3"},
			{ops(move(1, 0), bin(2, 4, api.Add, 5)), "1=0 2=4+5"},
			{ops(constant(1, 2), bin(2, 4, api.Add, 5), load(2, 1, 4)), "1=#2 2=4+5 2=a1[4]"},
			{ops(constant(0, 1), constant(4, 2), load(2, 0, 1), unlock(1)), "0=#1 4=#2 2=a0[1] unlock 1"},
		},
	} {
		for _, c := range table {
			if x := folded(t, name, data(api.Block{Ops: c.ops})); blocks(x) != c.want {
				t.Errorf("%s: %s\nnot %s", name, blocks(x), c.want)
			}
		}
	}
}

// TestOperators has all operators with words at the ends of their ranges, with both operands known, and with one.
func TestOperators(t *testing.T) {
	words := []int{0, 1, 2, 3, 7, 31, 32, 33, -1, -2, -7, -32, 1 << 16, math.MaxInt32, math.MaxInt32 - 1, math.MinInt32, math.MinInt32 + 1}
	for op := api.Add; op <= api.Ne; op++ {
		for _, a := range words {
			for _, b := range words {
				want, _ := word.Do(op, a, b)
				list := ops(constant(4, a), constant(5, b), bin(2, 4, op, 5), bin(4, 4, op, 5), bin(3, 4, op, 0), bin(3, 0, op, 5), bin(3, 3, op, 3))
				x := folded(t, "operators", data(api.Block{Ops: list})).Blocks[0].Ops
				if !slices.Equal(x[:4], ops(constant(4, a), constant(5, b), constant(2, want), constant(4, want))) || !slices.Equal(x[4:], list[4:]) {
					t.Errorf("%d, %d and %d: %v, not %d", op, a, b, x, want)
				}
			}
		}
	}
	for want, o := range map[int]int{-7 / 2: api.Div, -7 % 2: api.Rem, -28: api.Shl, -2: api.Shr} {
		list := ops(constant(0, -7), constant(1, 2), bin(3, 0, o, 1))
		if x := folded(t, "signs", data(api.Block{Ops: list})).Blocks[0].Ops; x[2] != constant(3, want) {
			t.Errorf("%d: %v, not %d", o, x, want)
		}
	}
}

// TestManyVariables has as many operations, and variables, as there can be: all but one are copies of the last one, until it changes.
func TestManyVariables(t *testing.T) {
	var list, want []api.Op
	for v := range 63 {
		list, want = append(list, move(v, (v+63)%64)), append(want, move(v, 63))
	}
	for v := range 63 {
		list, want = append(list, bin(63, v, api.Add, 62-v)), append(want, bin(63, v, api.Add, 62-v))
	}
	want[63] = bin(63, 63, api.Add, 63)
	for len(list) < api.MaxOps {
		n := len(list)
		list, want = append(list, constant(n%64, n), move((n+1)%64, n%64)), append(want, constant(n%64, n), constant((n+1)%64, n))
	}
	g := api.Graph{Vars: 64, Keep: 64, Blocks: []api.Block{{Ops: list}}}
	if x := folded(t, "many", g); !slices.Equal(x.Blocks[0].Ops, want) {
		t.Errorf("%s\nnot %s", blocks(x), text(want))
	}
}

// P14.1: blocks

// TestBlocksByThemselves has blocks that know nothing of what the blocks before them do, or of those behind.
func TestBlocksByThemselves(t *testing.T) {
	known := ops(constant(0, 5), move(2, 1))
	use := ops(bin(3, 0, api.Add, 2), move(4, 0), move(5, 2))
	for name, c := range map[string]struct {
		blocks []api.Block
		want   string
	}{
		"in a row":          {[]api.Block{{Ops: known, Next: to(1)}, {Ops: use}}, "0=#5 2=1 to [1]; 3=0+2 4=0 5=2"},
		"in the other row":  {[]api.Block{{Next: to(2)}, {Ops: use}, {Ops: known, Next: to(1)}}, "to [2]; 3=0+2 4=0 5=2; 0=#5 2=1 to [1]"},
		"behind both":       {[]api.Block{{Cond: 5, Next: to(1, 2)}, {Ops: known, Next: to(3)}, {Ops: known, Next: to(3)}, {Ops: use}}, "by 5 to [1 2]; 0=#5 2=1 to [3]; 0=#5 2=1 to [3]; 3=0+2 4=0 5=2"},
		"in itself":         {[]api.Block{{Next: to(1)}, {Ops: slices.Concat(use, known), Cond: 3, Next: to(1, 2)}, {}}, "to [1]; 3=0+2 4=0 5=2 0=#5 2=1 by 3 to [1 2]; "},
		"in each by itself": {[]api.Block{{Ops: slices.Concat(known, use), Next: to(1)}, {Ops: use, Next: to(2)}, {Ops: slices.Concat(known, use)}}, "0=#5 2=1 3=0+1 4=#5 5=1 to [1]; 3=0+2 4=0 5=2 to [2]; 0=#5 2=1 3=0+1 4=#5 5=1"},
		"not reached":       {[]api.Block{{Next: to(2)}, {Ops: slices.Concat(known, use), Next: to(2)}, {}}, "to [2]; 0=#5 2=1 3=0+1 4=#5 5=1 to [2]; "},
		"in a section":      {[]api.Block{{Ops: known, Next: to(1)}, {Ops: slices.Concat(ops(lock(1)), use, ops(unlock(1))), Next: to(2)}, {Ops: use}}, "0=#5 2=1 to [1]; lock 1 3=0+2 4=0 5=2 unlock 1 to [2]; 3=0+2 4=0 5=2"},
		"a condition":       {[]api.Block{{Ops: known, Next: to(1)}, {Cond: 0, Next: to(2, 3)}, {Cond: 2, Next: to(1, 3)}, {}}, "0=#5 2=1 to [1]; by 0 to [2 3]; by 2 to [1 3]; "},
	} {
		if x := folded(t, name, data(c.blocks...)); blocks(x) != c.want {
			t.Errorf("%s: %s\nnot %s", name, blocks(x), c.want)
		}
	}
}

// P14.1: conditions

// TestConditions has first blocks that lead to 1 and 2.
func TestConditions(t *testing.T) {
	for name, c := range map[string]struct {
		ops  []api.Op
		cond int
		want string
	}{
		"nothing is known":          {nil, 3, "by 3 to [1 2]"},
		"the variable 0":            {nil, 0, "by 0 to [1 2]"},
		"not 0":                     {ops(constant(3, 5)), 3, "3=#5 to [1]"},
		"1":                         {ops(constant(3, 1)), 3, "3=#1 to [1]"},
		"below 0":                   {ops(constant(3, -1)), 3, "3=#-1 to [1]"},
		"the least word":            {ops(constant(3, math.MinInt32)), 3, "3=#-2147483648 to [1]"},
		"the greatest word":         {ops(constant(3, math.MaxInt32)), 3, "3=#2147483647 to [1]"},
		"0":                         {ops(constant(3, 0)), 3, "3=#0 to [2]"},
		"the variable 0 is 0":       {ops(constant(0, 0)), 0, "0=#0 to [2]"},
		"the variable 0 is 4":       {ops(constant(0, 4)), 0, "0=#4 to [1]"},
		"the last variable":         {ops(constant(5, 4)), 5, "5=#4 to [1]"},
		"another one is known":      {ops(constant(0, 4)), 3, "0=#4 by 3 to [1 2]"},
		"a word that is a variable": {ops(constant(3, 4), constant(4, 0)), 3, "3=#4 4=#0 to [1]"},
		"computed, not 0":           {ops(constant(4, 4), constant(5, 5), bin(3, 4, api.Lt, 5)), 3, "4=#4 5=#5 3=#1 to [1]"},
		"computed, 0":               {ops(constant(4, 4), constant(5, 5), bin(3, 5, api.Lt, 4)), 3, "4=#4 5=#5 3=#0 to [2]"},
		"computed with another one": {ops(constant(4, 0), bin(3, 0, api.Mul, 4)), 3, "4=#0 3=0*4 by 3 to [1 2]"},
		"a copy":                    {ops(move(3, 1)), 3, "3=1 by 1 to [1 2]"},
		"a copy of the variable 0":  {ops(move(3, 0)), 3, "3=0 by 0 to [1 2]"},
		"the variable 0 is a copy":  {ops(move(0, 4)), 0, "0=4 by 4 to [1 2]"},
		"a copy of a copy":          {ops(move(4, 1), move(3, 4)), 3, "4=1 3=1 by 1 to [1 2]"},
		"what a copy is of":         {ops(move(3, 1)), 1, "3=1 by 1 to [1 2]"},
		"a copy of a word":          {ops(constant(4, 6), move(3, 4)), 3, "4=#6 3=#6 to [1]"},
		"a copy of 0":               {ops(constant(4, 0), move(3, 4)), 3, "4=#0 3=#0 to [2]"},
		"a copy of one that was 0":  {ops(constant(4, 0), move(3, 4), load(4, 0, 0)), 3, "4=#0 3=#0 4=a0[0] to [2]"},
		"a copy of a later 0":       {ops(move(3, 4), constant(4, 0)), 3, "3=4 4=#0 by 3 to [1 2]"},
		"not known any more":        {ops(constant(3, 5), load(3, 1, 0)), 3, "3=#5 3=a1[0] by 3 to [1 2]"},
		"known at last":             {ops(constant(3, 5), constant(3, 0)), 3, "3=#5 3=#0 to [2]"},
		"no copy any more":          {ops(move(3, 1), bin(3, 3, api.Add, 3)), 3, "3=1 3=1+1 by 3 to [1 2]"},
		"a copy of another one now": {ops(move(3, 1), move(3, 0)), 3, "3=1 3=0 by 0 to [1 2]"},
		"known behind a store":      {ops(constant(0, 5), store(1, 2, 3)), 0, "0=#5 a1[2]=3 to [1]"},
		"known behind a lock":       {ops(lock(0), constant(3, 5)), 3, "lock 0 3=#5 to [1]"},
		"known before an unlock":    {ops(constant(0, 0), unlock(0)), 0, "0=#0 unlock 0 to [2]"},
	} {
		x := folded(t, name, data(api.Block{Ops: c.ops, Cond: c.cond, Next: to(1, 2)}, api.Block{Next: to(2)}, api.Block{}))
		if got := blocks(x); got != c.want+"; to [2]; " {
			t.Errorf("%s: %s\nnot %s", name, got, c.want)
		}
	}
}

// TestOtherSuccessors has conditions in other places: the order of the successors counts, not their numbers.
func TestOtherSuccessors(t *testing.T) {
	yes, no := ops(constant(3, 2)), ops(constant(3, 0))
	for name, c := range map[string]struct {
		blocks []api.Block
		want   string
	}{
		"exchanged, not 0":    {[]api.Block{{Ops: yes, Cond: 3, Next: to(2, 1)}, {}, {Next: to(1)}}, "3=#2 to [2]; ; to [1]"},
		"exchanged, 0":        {[]api.Block{{Ops: no, Cond: 3, Next: to(2, 1)}, {}, {Next: to(1)}}, "3=#0 to [1]; ; to [1]"},
		"a loop without end":  {[]api.Block{{Next: to(1)}, {Ops: yes, Cond: 3, Next: to(1, 2)}, {}}, "to [1]; 3=#2 to [1]; "},
		"a loop of one round": {[]api.Block{{Next: to(1)}, {Ops: no, Cond: 3, Next: to(1, 2)}, {}}, "to [1]; 3=#0 to [2]; "},
		"several":             {[]api.Block{{Ops: yes, Cond: 3, Next: to(1, 2)}, {Ops: no, Cond: 3, Next: to(2, 3)}, {Cond: 3, Next: to(1, 3)}, {}}, "3=#2 to [1]; 3=#0 to [3]; by 3 to [1 3]; "},
		// Without two successors Cond is 0, and not the variable 0.
		"one successor, a copy": {[]api.Block{{Ops: ops(move(0, 4)), Next: to(1)}, {}}, "0=4 to [1]; "},
		"one successor, a word": {[]api.Block{{Ops: ops(constant(0, 0)), Next: to(1)}, {}}, "0=#0 to [1]; "},
		"the end, a copy":       {[]api.Block{{Ops: ops(move(0, 4))}}, "0=4"},
		"the end, a word":       {[]api.Block{{Ops: ops(constant(0, 1))}}, "0=#1"},
	} {
		if x := folded(t, name, data(c.blocks...)); blocks(x) != c.want {
			t.Errorf("%s: %s\nnot %s", name, blocks(x), c.want)
		}
	}
}

// TestPointsAndHeadsStay has points of blocks, and heads, that nothing leads to any more.
func TestPointsAndHeadsStay(t *testing.T) {
	g := data(
		api.Block{Ops: ops(constant(3, 0)), Cond: 3, Next: to(1, 3)}, api.Block{Cond: 4, Next: to(2, 3)},
		api.Block{Ops: ops(move(4, 5)), Next: to(1)}, api.Block{Ops: ops(move(2, 4), move(3, 2))})
	g.Points, g.Heads = [][]int{{0}, nil, {2, 1}, {3}, {1, 0, 3, 2}, {2}}, []api.Head{{Block: 1, Max: 7}, {Block: 2, Max: 0}, {Block: 3, Max: 4000}}
	x := folded(t, "points", g)
	if got := blocks(x); got != "3=#0 to [3]; by 4 to [2 3]; 4=5 to [1]; 2=4 3=4" {
		t.Error(got)
	}
	if text(x.Points) != "[[0] [] [2 1] [3] [1 0 3 2] [2]]" || text(x.Heads) != "[{Block:1 Max:7} {Block:2 Max:0} {Block:3 Max:4000}]" {
		t.Errorf("%v, %v", x.Points, x.Heads)
	}
	x = folded(t, "data", data(api.Block{}))
	if text(x.Inputs) != "[{Name:x Lo:-10 Hi:10} {Name:y Lo:-2147483648 Hi:2147483647}]" || x.Vars != 6 || x.Keep != 4 ||
		text(x.Arrays) != "[{Name:a Size:1} {Name:b Size:4} {Name:c Size:2} {Name:d Size:8}]" || x.Shared != 2 {
		t.Errorf("%+v", x)
	}
}

// TestTheLeastAndTheGreatest has the least graph, and one that is as large as a graph can be.
func TestTheLeastAndTheGreatest(t *testing.T) {
	for _, g := range []api.Graph{
		{Blocks: []api.Block{{}}},
		{Inputs: []api.Input{}, Arrays: []api.Array{}, Points: [][]int{}, Heads: []api.Head{}, Blocks: []api.Block{{Ops: []api.Op{}, Next: []int{}}}},
	} {
		if x, l, e := Fold(g); e != api.OK || text(x) != text(g) || text(l) != "[[0]]" {
			t.Errorf("error %d, %+v, %v", e, x, l)
		}
	}
	g := api.Graph{Inputs: make([]api.Input, 64), Vars: 64, Keep: 64, Arrays: slices.Repeat([]api.Array{{Size: 16}}, 8), Shared: 8}
	g.Blocks, g.Points = make([]api.Block, 64), slices.Repeat([][]int{{63}}, 39)
	for b := range 63 {
		g.Blocks[b] = api.Block{Ops: slices.Repeat(ops(move(b, 63)), 9), Cond: b, Next: to(b + 1)}
		if b < 62 {
			g.Blocks[b].Next = append(g.Blocks[b].Next, 63)
		}
		g.Heads = append(g.Heads, api.Head{Block: b, Max: 4000})
	}
	g.Blocks[62].Cond = 0
	g.Blocks[63].Ops = slices.Repeat(ops(constant(63, 7)), 33)
	x := folded(t, "the greatest", g)
	for b := range 62 {
		if x.Blocks[b].Cond != 63 || !slices.Equal(x.Blocks[b].Next, to(b+1, 63)) || !slices.Equal(x.Blocks[b].Ops, g.Blocks[b].Ops) {
			t.Errorf("block %d: %+v", b, x.Blocks[b])
		}
	}
}

// P14.1: errors

// broken are graphs that Check refuses.
func broken() map[string]api.Graph {
	return map[string]api.Graph{
		"nothing":               {},
		"two ends":              data(api.Block{}, api.Block{}),
		"no end":                data(api.Block{Next: to(1)}, api.Block{Next: to(1)}),
		"back to the first":     data(api.Block{Cond: 0, Next: to(0, 1)}, api.Block{}),
		"three successors":      data(api.Block{Next: to(1, 2, 3)}, api.Block{Next: to(2)}, api.Block{Next: to(3)}, api.Block{}),
		"twice the same":        data(api.Block{Ops: ops(constant(0, 1)), Next: to(1, 1)}, api.Block{}),
		"no variable":           data(api.Block{Ops: ops(move(2, 6))}),
		"no Dst":                data(api.Block{Ops: ops(constant(-1, 6))}),
		"no condition":          data(api.Block{Cond: 6, Next: to(1, 2)}, api.Block{Next: to(2)}, api.Block{}),
		"a condition alone":     data(api.Block{Ops: ops(constant(1, 1)), Cond: 1, Next: to(1)}, api.Block{}),
		"no word":               data(api.Block{Ops: ops(constant(2, 1<<31))}),
		"no operator":           data(api.Block{Ops: ops(constant(2, 1), bin(3, 2, 15, 2))}),
		"no kind":               data(api.Block{Ops: ops(api.Op{Kind: 8})}),
		"a field of none":       data(api.Block{Ops: ops(api.Op{Kind: api.OpCopy, B: 1})}),
		"a Dst of a store":      data(api.Block{Ops: ops(api.Op{Kind: api.OpStore, Dst: 1})}),
		"no array":              data(api.Block{Ops: ops(load(2, 4, 0))}),
		"a lock behind":         data(api.Block{Ops: ops(move(2, 1), lock(0))}),
		"an unlock in front":    data(api.Block{Ops: ops(unlock(0), move(2, 1))}),
		"a point":               {Blocks: []api.Block{{}}, Points: [][]int{{1}}},
		"a head":                {Blocks: []api.Block{{}}, Heads: []api.Head{{Block: 1}}},
		"more shared arrays":    {Blocks: []api.Block{{}}, Shared: 1},
		"no size":               {Blocks: []api.Block{{}}, Arrays: []api.Array{{}}},
		"no range":              {Vars: 1, Keep: 1, Inputs: []api.Input{{Lo: 1}}, Blocks: []api.Block{{}}},
		"more inputs than kept": {Vars: 1, Inputs: []api.Input{{}}, Blocks: []api.Block{{}}},
	}
}

// large are graphs that are beyond a limit, and wrong in another way, too.
func large() map[string]api.Graph {
	return map[string]api.Graph{
		"variables":  {Vars: 65, Blocks: []api.Block{{Next: to(1)}}},
		"blocks":     {Blocks: make([]api.Block, 65)},
		"operations": {Blocks: []api.Block{{Ops: slices.Repeat(ops(move(0, 0)), 601)}}},
		"arrays":     {Arrays: make([]api.Array, 9), Blocks: []api.Block{{}}},
		"points":     {Points: slices.Repeat([][]int{{1}}, 40), Blocks: []api.Block{{}}},
	}
}

func TestErrors(t *testing.T) {
	for want, graphs := range map[api.Errno]map[string]api.Graph{api.ErrForm: broken(), api.ErrLimit: large()} {
		for name, g := range graphs {
			before := text(g)
			x, l, e := Fold(g)
			if e != want || e != graph.Check(g) || text(x) != text(api.Graph{}) || len(l) != 0 || text(g) != before {
				t.Errorf("%s: error %d, not %d, %+v, %v", name, e, want, x, l)
			}
		}
	}
}

// TestResultsAreNew changes what was given and what was returned: nothing else changes.
func TestResultsAreNew(t *testing.T) {
	given := func() api.Graph {
		g := data(
			api.Block{Ops: ops(move(3, 1), move(4, 3)), Cond: 4, Next: to(1, 2)}, api.Block{Ops: ops(constant(2, 1)), Cond: 2, Next: to(2, 3)},
			api.Block{Ops: ops(load(2, 1, 3)), Next: to(3)}, api.Block{Ops: ops(store(1, 2, 3))})
		g.Points, g.Heads = [][]int{{0}, {1, 2}, {3}}, []api.Head{{Block: 1, Max: 7}, {Block: 2, Max: 8}}
		return g
	}
	// wipe changes all that lists of a graph have, and writes behind their ends.
	wipe := func(g api.Graph) {
		lists := g.Points
		for b, block := range g.Blocks {
			clear(block.Ops)
			_ = append(block.Ops, constant(5, 5))
			lists, g.Blocks[b] = append(lists, block.Next), api.Block{}
		}
		for _, l := range lists {
			clear(l)
			_ = append(l, -99)
		}
		clear(g.Inputs)
		clear(g.Arrays)
		clear(g.Points)
		clear(g.Heads)
	}
	g := given()
	x, l, _ := Fold(g)
	want, lists := text(x), text(l)
	wipe(g)
	if text(x) != want || text(l) != lists {
		t.Errorf("what was given has changed it: %+v, %v", x, l)
	}
	g = given()
	before := text(g)
	x, l, _ = Fold(g)
	for _, list := range l {
		clear(list)
		_ = append(list, -99)
	}
	if text(x) != want {
		t.Errorf("the map has changed it: %+v", x)
	}
	wipe(x)
	if text(g) != before {
		t.Errorf("what was returned has changed %+v", g)
	}
	// Lists of one result are changed one by one: what is behind an end is no other list's.
	x, l, _ = Fold(g)
	parts := slices.Concat(x.Points, l)
	for _, b := range x.Blocks {
		parts = append(parts, b.Next)
		_ = append(b.Ops, constant(5, 5))
	}
	for i, list := range parts {
		others := text([]any{parts[:i], parts[i+1:]})
		for n := range list {
			list[n] = -99
		}
		_ = append(list, -99)
		if text([]any{parts[:i], parts[i+1:]}) != others {
			t.Errorf("the list %d has changed others", i)
		}
	}
	if y, m, e := Fold(given()); e != api.OK || text(y) != want || text(m) != lists {
		t.Errorf("again: error %d, %+v, %v", e, y, m)
	}
}

package dead

import (
	"fmt"
	"math"
	"math/rand"
	"slices"
	"strings"
	"testing"
	"timebound/api"
	"timebound/check"
	"timebound/eval"
	"timebound/fact"
	"timebound/fold"
	"timebound/graph"
	"timebound/infer"
	"timebound/parse"
	"timebound/print"
	"timebound/trace"
	"timebound/word"
)

// random is a maker of graphs, and of texts of tasks.
type random struct {
	*rand.Rand
	labels []int
	held   string // an array whose resource is held
}

func pick[T any](r *random, list ...T) T { return list[r.Intn(len(list))] }

func (r *random) from(lo, hi int) int { return lo + r.Intn(hi-lo+1) }

func (r *random) number() int {
	return pick(r, 0, 0, 1, 2, 3, -1, -2, 7, 31, 32, math.MaxInt32, math.MinInt32, r.from(-9, 99), word.Wrap(r.Int()))
}

// op is an operation with all that it names.
func (r *random) op(g api.Graph) api.Op {
	v := func() int { return r.Intn(g.Vars) }
	switch kind := r.Intn(9); {
	case kind < 2:
		return constant(v(), r.number())
	case kind < 5:
		return move(v(), v())
	case kind == 5 && len(g.Arrays) > 0:
		return load(v(), r.Intn(len(g.Arrays)), v())
	case kind == 6 && len(g.Arrays) > 0:
		return store(r.Intn(len(g.Arrays)), v(), v())
	}
	return bin(v(), v(), r.from(api.Add, api.Ne), v())
}

// graph is a valid one.
func (r *random) graph() api.Graph {
	g := api.Graph{Vars: r.from(1, 9), Blocks: make([]api.Block, r.from(1, 8))}
	g.Keep = r.Intn(min(g.Vars, r.from(1, 9)) + 1)
	for range min(r.Intn(4), g.Keep) {
		lo := r.from(-3, 3)
		g.Inputs = append(g.Inputs, api.Input{Lo: lo, Hi: lo + r.Intn(4)})
	}
	for range r.Intn(4) {
		g.Arrays = append(g.Arrays, api.Array{Size: pick(r, 1, 2, 4, 8)})
	}
	g.Shared = r.Intn(len(g.Arrays) + 1)
	last := len(g.Blocks) - 1
	end := r.Intn(last + 1)
	for b := range g.Blocks {
		var list []api.Op
		if r.Intn(9) == 0 {
			list = append(list, lock(r.Intn(2)))
		}
		for range r.Intn(7) {
			list = append(list, r.op(g))
		}
		if r.Intn(9) == 0 {
			list = append(list, unlock(r.Intn(2)))
		}
		block := api.Block{Ops: list}
		if b != end && last > 0 {
			for _, way := range r.Perm(last)[:min(last, r.from(1, 2))] {
				block.Next = append(block.Next, way+1)
			}
			if len(block.Next) == 2 {
				block.Cond = r.Intn(g.Vars)
			}
		}
		g.Blocks[b] = block
		if r.Intn(3) == 0 {
			g.Heads = append(g.Heads, api.Head{Block: b, Max: r.Intn(9)})
		}
	}
	for range r.Intn(4) {
		g.Points = append(g.Points, r.Perm(last + 1)[:r.Intn(last+2)])
	}
	return g
}

// words are the contents of some arrays.
func (r *random) words(arrays []api.Array) [][]int {
	var out [][]int
	for _, a := range arrays {
		list := make([]int, a.Size)
		for i := range list {
			list[i] = r.number()
		}
		out = append(out, list)
	}
	return out
}

// stay are the blocks that are not left out: the end, and those to which there are ways from block 0 of at most as many steps as there are blocks.
func stay(g api.Graph) []int {
	reached := []int{0}
	for range g.Blocks {
		for _, b := range reached {
			for _, n := range g.Blocks[b].Next {
				if !slices.Contains(reached, n) {
					reached = append(reached, n)
				}
			}
		}
	}
	for b := range g.Blocks {
		if len(g.Blocks[b].Next) == 0 && !slices.Contains(reached, b) {
			reached = append(reached, b)
		}
	}
	slices.Sort(reached)
	return reached
}

// where returns the places, among the blocks that stay, of those blocks of a list that do.
func where(list, stay []int) []int {
	var out []int
	for _, b := range list {
		if i := slices.Index(stay, b); i >= 0 {
			out = append(out, i)
		}
	}
	return out
}

// without leaves out one operation that is not needed: the first one that is found from a place on. It reports whether there was one.
func without(g api.Graph, from int) bool {
	for i := range g.Blocks {
		b := (i + from) % len(g.Blocks)
		list := g.Blocks[b].Ops
		for at, o := range list {
			if writes(o, o.Dst) && !needed(g, b, at+1, o.Dst) {
				g.Blocks[b].Ops = slices.Concat(list[:at], list[at+1:])
				return true
			}
		}
	}
	return false
}

// slow leaves out what is not needed one by one, in any row.
func slow(r *random, g api.Graph) (api.Graph, [][]int) {
	left := stay(g)
	x := g
	x.Blocks, x.Points, x.Heads = nil, nil, nil
	var to [][]int
	for b, block := range g.Blocks {
		to = append(to, where([]int{b}, left))
		if slices.Contains(left, b) {
			block.Next = where(block.Next, left)
			x.Blocks = append(x.Blocks, block)
		}
	}
	for _, list := range g.Points {
		x.Points = append(x.Points, where(list, left))
	}
	for _, h := range g.Heads {
		if i := slices.Index(left, h.Block); i >= 0 {
			x.Heads = append(x.Heads, api.Head{Block: i, Max: h.Max})
		}
	}
	for without(x, r.Intn(len(x.Blocks))) {
	}
	return x, to
}

// against compares with what leaving out one by one leads to, and what is needed at the end of each block with the ways from there.
func against(t *testing.T, r *random, g api.Graph) (api.Graph, [][]int) {
	t.Helper()
	live(t, "a random one", g)
	x, l := cleared(t, "a random one", g)
	if want, to := slow(r, g); text(x) != text(want) || text(l) != text(to) {
		t.Fatalf("%s\nis  %s, %v, %v, %v\nnot %s, %v, %v, %v", blocks(g), blocks(x), l, x.Points, x.Heads, blocks(want), to, want.Points, want.Heads)
	}
	return x, l
}

// P15.1 and P15.2 for many graphs

// TestAllShortGraphs has all graphs of some shapes with three operations on two variables.
func TestAllShortGraphs(t *testing.T) {
	r := &random{Rand: rand.New(rand.NewSource(3))}
	var all []api.Op
	for d := range 2 {
		all = append(all, constant(d, 7), load(d, 0, d), load(d, 0, 1-d), store(0, d, 1-d))
		for a := range 2 {
			all = append(all, move(d, a), bin(d, a, api.Sub, 1-a))
		}
	}
	for _, first := range all {
		for _, second := range all {
			for _, third := range all {
				for keep := range 3 {
					a, b, c := ops(first), ops(second), ops(third)
					for _, list := range [][]api.Block{
						{{Ops: ops(first, second, third)}},
						{{Ops: a, Cond: 1, Next: to(1, 2)}, {Ops: b, Next: to(2)}, {Ops: c}},
						{{Next: to(1)}, {Ops: a, Cond: 0, Next: to(2, 3)}, {Ops: b, Next: to(1)}, {Ops: c}},
						{{Next: to(3)}, {Ops: a}, {Ops: b, Next: to(3)}, {Ops: c, Cond: 1, Next: to(3, 1)}},
					} {
						against(t, r, api.Graph{Vars: 2, Keep: keep, Arrays: []api.Array{{Size: 2}}, Blocks: list})
					}
				}
			}
		}
	}
}

// size is how many operations a graph has.
func size(g api.Graph) int {
	n := 0
	for _, b := range g.Blocks {
		n += len(b.Ops)
	}
	return n
}

// same compares two runs, before and after something was left out: those of blocks that were are none, and others are the same.
func same(t *testing.T, name string, before, after api.Outcome, l [][]int) {
	t.Helper()
	if after.Steps > before.Steps {
		t.Fatalf("%s: %d steps, and %d before", name, after.Steps, before.Steps)
	}
	sums := make([]int, len(before.Counts))
	for b, list := range l {
		for _, n := range list {
			sums[b] += after.Counts[n]
		}
	}
	if !slices.Equal(sums, before.Counts) {
		t.Fatalf("%s: the counts %v by %v\nnot %v", name, after.Counts, l, before.Counts)
	}
	after.Counts, after.Steps = before.Counts, before.Steps
	if text(after) != text(before) {
		t.Fatalf("%s: %+v\nnot %+v", name, after, before)
	}
}

// TestRandomGraphs has graphs that compute what they did, with the same counts, and no more operations.
func TestRandomGraphs(t *testing.T) {
	r := &random{Rand: rand.New(rand.NewSource(15))}
	fewer, shorter, unreached, ended, locks := 0, 0, 0, 0, 0
	for range 6000 {
		g := r.graph()
		if e := graph.Check(g); e != api.OK {
			t.Fatalf("%+v: error %d", g, e)
		}
		x, l := against(t, r, g)
		fewer += len(g.Blocks) - len(x.Blocks)
		shorter += size(g) - size(x)
		if size(x) > size(g) {
			t.Fatalf("%s\nis %s", blocks(g), blocks(x))
		}
		for b, yes := range graph.Reached(x) {
			if !yes && len(x.Blocks[b].Next) == 0 {
				unreached++
			} else if !yes {
				t.Fatalf("block %d of %s", b, blocks(x))
			}
		}
		for range 3 {
			var in []int
			for _, i := range g.Inputs {
				in = append(in, r.from(i.Lo, i.Hi))
			}
			shared := r.words(g.Arrays[len(g.Arrays)-g.Shared:])
			name := fmt.Sprintf("%s\nis %s\nfor %v and %v", blocks(g), blocks(x), in, shared)
			want, e := trace.Run(g, in, shared, 300)
			o, f := trace.Run(x, in, shared, 300)
			switch e {
			case api.OK:
				ended++
				if f != api.OK {
					t.Fatalf("%s: error %d", name, f)
				}
				same(t, name, want, o, l)
			case api.ErrLock:
				locks++
				if f != e {
					t.Fatalf("%s: error %d", name, f)
				}
			}
		}
	}
	if fewer < 6000 || shorter < 40000 || unreached < 500 || ended < 6000 || locks < 500 {
		t.Errorf("%d blocks and %d operations are left out, %d ends are not reached, %d runs came to their end, %d to an error", fewer, shorter, unreached, ended, locks)
	}
}

// TestAnything has graphs of any numbers: all calls end, and what Check refuses is refused.
func TestAnything(t *testing.T) {
	r := &random{Rand: rand.New(rand.NewSource(1))}
	n := func() int { return pick(r, 0, 0, 1, 1, 2, 3, -1, 64, math.MinInt, math.MaxInt) }
	list := func() []int { return []int{n(), n(), n()}[:r.Intn(4)] }
	found := map[api.Errno]int{}
	for range 12000 {
		g := api.Graph{Blocks: []api.Block{{}}}
		if r.Intn(2) == 0 {
			g = r.graph()
		}
		switch r.Intn(8) {
		case 0:
			g.Vars, g.Keep = n(), n()
		case 1:
			g.Shared, g.Arrays = n(), append(g.Arrays, api.Array{Size: n()})
		case 2:
			g.Inputs = append(g.Inputs, api.Input{Lo: n(), Hi: n()})
		case 3:
			g.Blocks = append(g.Blocks, api.Block{Ops: ops(api.Op{Kind: r.Intn(9), Dst: n(), A: n(), B: n(), Imm: n()}), Cond: n(), Next: list()})
		case 4:
			g.Points, g.Heads = append(g.Points, list()), append(g.Heads, api.Head{Block: n(), Max: n()})
		case 5:
			b := r.Intn(len(g.Blocks))
			g.Blocks[b].Ops = append(g.Blocks[b].Ops, api.Op{Kind: r.Intn(9), Dst: n(), A: n(), B: n(), Imm: n()})
		}
		want := graph.Check(g)
		found[want]++
		if want == api.OK {
			against(t, r, g)
			continue
		}
		before := text(g)
		lists, d := Live(g)
		x, l, e := Dead(g)
		if d != want || len(lists) != 0 || e != want || text(x) != text(api.Graph{}) || len(l) != 0 || text(g) != before {
			t.Fatalf("%s: errors %d and %d, not %d, %v, %+v, %v", before, d, e, want, lists, x, l)
		}
	}
	if found[api.OK] < 3000 || found[api.ErrForm] < 3000 || found[api.ErrLimit] < 100 {
		t.Errorf("%v", found)
	}
}

// The consequences, for tasks

func (r *random) name() string { return pick(r, "x", "y", "i", "k") }

func (r *random) array() string {
	if r.held != "" && r.Intn(2) == 0 {
		return r.held
	}
	return pick(r, "a", "b")
}

func (r *random) expr(depth int) string {
	switch kind := r.Intn(5); {
	case kind == 0 || depth == 1 && kind%2 == 0:
		return fmt.Sprint(pick(r, 0, 1, 2, 3, -1, 31, math.MaxInt32, r.Intn(100)))
	case kind == 1 || depth == 1:
		return r.name()
	case kind == 2:
		return r.array() + "[" + r.expr(depth-1) + "]"
	}
	sign := pick(r, "+", "-", "*", "/", "%", "&", "|", "^", "<<", ">>", "<", "<=", "==", "!=")
	return "(" + r.expr(depth-1) + sign + r.expr(depth-1) + ")"
}

func (r *random) block(depth int) string {
	var l []string
	for range r.Intn(4) {
		l = append(l, r.stmt(depth))
	}
	return "{ " + strings.Join(l, " ") + " }"
}

// loop is one that often ends by itself, in time or just not.
func (r *random) loop(depth, label int) string {
	head := fmt.Sprintf("while %s max %d label %d ", pick(r, "i<3", "i<x", "i!=2", "y<=i", r.expr(3)), r.Intn(6), label)
	return head + strings.TrimSuffix(r.block(depth), "}") + pick(r, "i = i + 1 }", "i = i + 1 }", "}")
}

func (r *random) stmt(depth int) string {
	kind := r.Intn(6)
	if depth > 1 && kind < 2 && len(r.labels) > 0 {
		label := r.labels[0]
		r.labels = r.labels[1:]
		if kind == 0 {
			return r.loop(depth-1, label)
		}
		return fmt.Sprintf("if %s label %d %s else %s", r.expr(3), label, r.block(depth-1), r.block(depth-1))
	}
	switch {
	case kind == 2 && depth > 1 && r.held == "":
		resource := pick(r, "r", "q")
		r.held = map[string]string{"r": "buf", "q": "que"}[resource]
		defer func() { r.held = "" }()
		return "lock " + resource + " " + r.block(depth-1)
	case kind == 3:
		return r.array() + "[" + r.expr(3) + "] = " + r.expr(3)
	}
	return r.name() + " = " + r.expr(4)
}

// whole returns a program that is right.
func (r *random) whole(t *testing.T) api.Program {
	const before = "resource r\nresource q\nshared buf 4 r\nshared que 2 q\n" +
		"task t period 200 deadline 150 priority 3 jitter 5\ninput x 0 15\ninput y -3 3\nvar i\nvar k\narray a 4\narray b 8\nbody\n"
	for {
		r.labels = r.Perm(api.MaxLabels)
		for i := range r.labels {
			r.labels[i]++
		}
		var l []string
		for range 1 + r.Intn(5) {
			l = append(l, r.stmt(1+r.Intn(5)))
		}
		p, line, e := parse.Program(before + strings.Join(l, " ") + "\nend\n")
		if e != api.OK {
			t.Fatalf("%q: error %d in line %d", l, e, line)
		}
		if check.Program(p) == api.OK {
			return p
		}
	}
}

// free is a proof that knows nothing: each loop has a counter.
func free() api.Proof {
	return api.Proof{Most: slices.Repeat(to(api.MaxMax), 13), Natural: make([]bool, 13)}
}

// TestTasks runs random tasks, with what is proved of them and with nothing, as they are and folded: without what is not needed, they compute what their source does, with the same counts of points, and what is proved of these still holds.
func TestTasks(t *testing.T) {
	r := &random{Rand: rand.New(rand.NewSource(51))}
	runs, fewer, shorter, facts := 0, 0, 0, 0
	for range 500 {
		p := r.whole(t)
		source, _ := print.Program(p)
		proved, e := infer.Prove(p, 0, []api.Range{{Hi: 15}, {Lo: -3, Hi: 3}})
		if e != api.OK {
			t.Fatalf("%s: error %d", source, e)
		}
		for i, proof := range []api.Proof{proved, free(), proved, free()} {
			g, e := graph.Lower(p, 0, proof)
			if e == api.ErrLimit {
				continue
			}
			if i > 1 {
				g, _, _ = fold.Fold(g)
			}
			x, l := against(t, r, g)
			fewer += len(g.Blocks) - len(x.Blocks)
			shorter += size(g) - size(x)
			for range 2 {
				in, shared := to(r.from(0, 15), r.from(-3, 3)), r.words([]api.Array{{Size: 4}, {Size: 2}})
				name := fmt.Sprintf("%s: the inputs %v", source, in)
				want, _ := eval.Run(p, 0, in, shared)
				before, _ := trace.Run(g, in, shared, api.MaxSteps)
				o, e := trace.Run(x, in, shared, api.MaxSteps)
				points, f := trace.Points(x, o.Counts)
				if e != api.OK || f != api.OK || !slices.Equal(points, want.Counts) {
					t.Fatalf("%s, errors %d and %d, %v, not %v", name, e, f, points, want.Counts)
				}
				same(t, name, before, o, l)
				for _, claim := range proof.Facts {
					facts++
					if m, e := fact.Map(claim, x.Points); e != api.OK || !fact.Holds(m, o.Counts) {
						t.Fatalf("%s: error %d, %+v, the fact %+v for the counts %v", name, e, claim, m, o.Counts)
					}
				}
				want.Counts, want.Steps = o.Counts, o.Steps
				if text(o) != text(want) {
					t.Fatalf("%s: %+v\nnot %+v", name, o, want)
				}
				runs++
			}
		}
	}
	if runs < 3000 || fewer < 100 || shorter < 10000 || facts < 10000 {
		t.Errorf("%d runs, %d facts, %d blocks and %d operations are left out", runs, facts, fewer, shorter)
	}
}

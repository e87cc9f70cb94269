package fold

import (
	"fmt"
	"math"
	"math/rand"
	"slices"
	"strings"
	"testing"
	"timebound/api"
	"timebound/check"
	"timebound/eval"
	"timebound/graph"
	"timebound/infer"
	"timebound/parse"
	"timebound/print"
	"timebound/trace"
	"timebound/word"
)

// random is a maker of graphs, and of texts of tasks.
type random struct {
	*rand.Rand
	labels []int
	held   string // an array whose resource is held
}

func pick[T any](r *random, list ...T) T { return list[r.Intn(len(list))] }

func (r *random) from(lo, hi int) int { return lo + r.Intn(hi-lo+1) }

func (r *random) number() int {
	return pick(r, 0, 0, 1, 2, 3, -1, -2, 7, 31, 32, math.MaxInt32, math.MinInt32, r.from(-9, 99), word.Wrap(r.Int()))
}

// op is an operation with all that it names: often one from which something is known.
func (r *random) op(g api.Graph) api.Op {
	v := func() int { return r.Intn(g.Vars) }
	switch kind := r.Intn(9); {
	case kind < 2:
		return constant(v(), r.number())
	case kind < 5:
		return move(v(), v())
	case kind == 5 && len(g.Arrays) > 0:
		return load(v(), r.Intn(len(g.Arrays)), v())
	case kind == 6 && len(g.Arrays) > 0:
		return store(r.Intn(len(g.Arrays)), v(), v())
	}
	return bin(v(), v(), r.from(api.Add, api.Ne), v())
}

// graph is a valid one.
func (r *random) graph() api.Graph {
	g := api.Graph{Vars: r.from(1, 7), Blocks: make([]api.Block, r.from(1, 7))}
	g.Keep = r.from(0, g.Vars)
	for range min(r.Intn(4), g.Keep) {
		lo := r.from(-3, 3)
		g.Inputs = append(g.Inputs, api.Input{Lo: lo, Hi: lo + r.Intn(4)})
	}
	for range r.Intn(4) {
		g.Arrays = append(g.Arrays, api.Array{Size: pick(r, 1, 2, 4, 8)})
	}
	g.Shared = r.Intn(len(g.Arrays) + 1)
	last := len(g.Blocks) - 1
	end := r.Intn(last + 1)
	for b := range g.Blocks {
		var list []api.Op
		if r.Intn(9) == 0 {
			list = append(list, lock(r.Intn(2)))
		}
		for range r.Intn(12) {
			list = append(list, r.op(g))
		}
		if r.Intn(9) == 0 {
			list = append(list, unlock(r.Intn(2)))
		}
		block := api.Block{Ops: list}
		if b != end && last > 0 {
			for _, way := range r.Perm(last)[:min(last, r.from(1, 2))] {
				block.Next = append(block.Next, way+1)
			}
			if len(block.Next) == 2 {
				block.Cond = r.Intn(g.Vars)
			}
		}
		g.Blocks[b] = block
		if r.Intn(4) == 0 {
			g.Heads = append(g.Heads, api.Head{Block: b, Max: r.Intn(9)})
		}
	}
	for range r.Intn(4) {
		g.Points = append(g.Points, r.Perm(last + 1)[:r.Intn(last+2)])
	}
	return g
}

// words are the contents of some arrays.
func (r *random) words(arrays []api.Array) [][]int {
	var out [][]int
	for _, a := range arrays {
		list := make([]int, a.Size)
		for i := range list {
			list[i] = r.number()
		}
		out = append(out, list)
	}
	return out
}

// writes reports whether an operation changes a variable.
func writes(o api.Op, v int) bool {
	return slices.Contains([]int{api.OpConst, api.OpCopy, api.OpBin, api.OpLoad}, o.Kind) && o.Dst == v
}

// last is what a variable is behind operations that are folded, by the last one that has changed it: a word, or a variable: another one, if it is a copy.
func last(done []api.Op, v int) (source, n int, known bool) {
	for i := len(done) - 1; i >= 0; i-- {
		o := done[i]
		if !writes(o, v) {
			continue
		}
		later := func(o api.Op) bool { return writes(o, done[i].A) }
		switch {
		case o.Kind == api.OpConst:
			return v, o.Imm, true
		case o.Kind == api.OpCopy && o.A != v && !slices.ContainsFunc(done[i+1:], later):
			return o.A, 0, false
		}
		return v, 0, false
	}
	return v, 0, false
}

// slow folds a graph by looking back from each operand.
func slow(g api.Graph) api.Graph {
	x := g
	x.Blocks = nil
	for _, b := range g.Blocks {
		var done []api.Op
		for _, o := range b.Ops {
			if slices.Contains([]int{api.OpCopy, api.OpBin, api.OpLoad, api.OpStore}, o.Kind) {
				o.A, _, _ = last(done, o.A)
			}
			if o.Kind == api.OpBin || o.Kind == api.OpStore {
				o.B, _, _ = last(done, o.B)
			}
			_, m, first := last(done, o.A)
			_, n, second := last(done, o.B)
			if o.Kind == api.OpCopy && first {
				o = constant(o.Dst, m)
			}
			if o.Kind == api.OpBin && first && second {
				n, _ = word.Do(o.Imm, m, n)
				o = constant(o.Dst, n)
			}
			done = append(done, o)
		}
		b.Ops = done
		if len(b.Next) == 2 {
			source, n, known := last(done, b.Cond)
			b.Cond = source
			if known {
				b.Cond, b.Next = 0, map[bool][]int{true: b.Next[:1], false: b.Next[1:]}[n != 0]
			}
		}
		x.Blocks = append(x.Blocks, b)
	}
	return x
}

// against compares with what looking back leads to.
func against(t *testing.T, g api.Graph) api.Graph {
	t.Helper()
	x := folded(t, "a random one", g)
	if want := slow(g); text(x) != text(want) {
		t.Fatalf("%s\nis  %s\nnot %s", blocks(g), blocks(x), blocks(want))
	}
	return x
}

// P14.1 for all short blocks, and for random graphs

// TestAllShortBlocks has all blocks of three operations of some kinds on three variables, and all of four that are words and copies.
func TestAllShortBlocks(t *testing.T) {
	var some, all []api.Op
	for d := range 3 {
		some = append(some, constant(d, 0), constant(d, 6))
		all = append(all, load(d, 0, (d+1)%3), store(0, d, (d+1)%3))
		for a := range 3 {
			some = append(some, move(d, a))
			all = append(all, bin(d, a, api.Sub, (a+1)%3), bin(d, (a+1)%3, api.Sub, a))
		}
	}
	all = append(all, some...)
	g := api.Graph{Vars: 3, Arrays: []api.Array{{Size: 2}}}
	flush := func() {
		for b := range g.Blocks {
			g.Blocks[b].Next = to(b + 1)
			if b < len(g.Blocks)-1 {
				g.Blocks[b].Next = to(b+1, len(g.Blocks))
				g.Blocks[b].Cond = b % 3
			}
		}
		g.Blocks = append(g.Blocks, api.Block{})
		against(t, g)
		g.Blocks = nil
	}
	var row func(list, from []api.Op, more int)
	row = func(list, from []api.Op, more int) {
		if more == 0 {
			g.Blocks = append(g.Blocks, api.Block{Ops: slices.Clone(list)})
			if len(g.Blocks) == 62 {
				flush()
			}
			return
		}
		for _, o := range from {
			row(append(list, o), from, more-1)
		}
	}
	row(nil, all, 3)
	row(nil, some, 4)
	flush()
}

// run is one of a graph.
func run(g api.Graph, in []int, shared [][]int) string {
	o, e := trace.Run(g, in, shared, 300)
	return fmt.Sprintf("error %d, %+v", e, o)
}

// TestRandomGraphs has graphs that are folded as by looking back, and compute what they did, with the same counts and steps, or errors.
func TestRandomGraphs(t *testing.T) {
	r := &random{Rand: rand.New(rand.NewSource(14))}
	changed, decided, ended := 0, 0, 0
	for range 8000 {
		g := r.graph()
		if e := graph.Check(g); e != api.OK {
			t.Fatalf("%+v: error %d", g, e)
		}
		x := against(t, g)
		if text(x) != text(g) {
			changed++
		}
		for b := range g.Blocks {
			decided += len(g.Blocks[b].Next) - len(x.Blocks[b].Next)
		}
		for range 3 {
			var in []int
			for _, i := range g.Inputs {
				in = append(in, r.from(i.Lo, i.Hi))
			}
			shared := r.words(g.Arrays[len(g.Arrays)-g.Shared:])
			want := run(g, in, shared)
			if o := run(x, in, shared); o != want {
				t.Fatalf("%s\nis %s\nfor %v and %v: %s\nnot %s", blocks(g), blocks(x), in, shared, o, want)
			}
			if strings.HasPrefix(want, "error 0,") {
				ended++
			}
		}
	}
	if changed < 5000 || decided < 1500 || ended < 8000 {
		t.Errorf("%d graphs have changed, %d conditions are decided, %d runs came to their end", changed, decided, ended)
	}
}

// TestAnything has graphs of any numbers: all calls end, and what Check refuses is not folded.
func TestAnything(t *testing.T) {
	r := &random{Rand: rand.New(rand.NewSource(1))}
	n := func() int { return pick(r, 0, 0, 1, 1, 2, 3, -1, 64, math.MinInt, math.MaxInt) }
	list := func() []int { return []int{n(), n(), n()}[:r.Intn(4)] }
	found := map[api.Errno]int{}
	for range 20000 {
		g := api.Graph{Blocks: []api.Block{{}}}
		if r.Intn(2) == 0 {
			g = r.graph()
		}
		switch r.Intn(8) {
		case 0:
			g.Vars, g.Keep = n(), n()
		case 1:
			g.Shared, g.Arrays = n(), append(g.Arrays, api.Array{Size: n()})
		case 2:
			g.Inputs = append(g.Inputs, api.Input{Lo: n(), Hi: n()})
		case 3:
			g.Blocks = append(g.Blocks, api.Block{Ops: ops(api.Op{Kind: r.Intn(9), Dst: n(), A: n(), B: n(), Imm: n()}), Cond: n(), Next: list()})
		case 4:
			g.Points, g.Heads = append(g.Points, list()), append(g.Heads, api.Head{Block: n(), Max: n()})
		case 5:
			b := r.Intn(len(g.Blocks))
			g.Blocks[b].Ops = append(g.Blocks[b].Ops, api.Op{Kind: r.Intn(9), Dst: n(), A: n(), B: n(), Imm: n()})
		}
		found[graph.Check(g)]++
		if graph.Check(g) == api.OK {
			against(t, g)
			continue
		}
		before := text(g)
		x, l, e := Fold(g)
		if e != graph.Check(g) || text(x) != text(api.Graph{}) || len(l) != 0 || text(g) != before {
			t.Fatalf("%s: error %d, %+v, %v", before, e, x, l)
		}
	}
	if found[api.OK] < 4000 || found[api.ErrForm] < 4000 || found[api.ErrLimit] < 100 {
		t.Errorf("%v", found)
	}
}

// The consequences, for tasks

func (r *random) name() string { return pick(r, "x", "y", "i", "k") }

func (r *random) array() string {
	if r.held != "" && r.Intn(2) == 0 {
		return r.held
	}
	return pick(r, "a", "b")
}

func (r *random) expr(depth int) string {
	switch kind := r.Intn(5); {
	case kind == 0 || depth == 1 && kind%2 == 0:
		return fmt.Sprint(pick(r, 0, 1, 2, 3, -1, 31, math.MaxInt32, r.Intn(100)))
	case kind == 1 || depth == 1:
		return r.name()
	case kind == 2:
		return r.array() + "[" + r.expr(depth-1) + "]"
	}
	sign := pick(r, "+", "-", "*", "/", "%", "&", "|", "^", "<<", ">>", "<", "<=", "==", "!=")
	return "(" + r.expr(depth-1) + sign + r.expr(depth-1) + ")"
}

func (r *random) block(depth int) string {
	var l []string
	for range r.Intn(4) {
		l = append(l, r.stmt(depth))
	}
	return "{ " + strings.Join(l, " ") + " }"
}

// loop is one that often ends by itself, in time or just not.
func (r *random) loop(depth, label int) string {
	head := fmt.Sprintf("while %s max %d label %d ", pick(r, "i<3", "i<x", "i!=2", "y<=i", r.expr(3)), r.Intn(6), label)
	return head + strings.TrimSuffix(r.block(depth), "}") + pick(r, "i = i + 1 }", "i = i + 1 }", "}")
}

func (r *random) stmt(depth int) string {
	kind := r.Intn(6)
	if depth > 1 && kind < 2 && len(r.labels) > 0 {
		label := r.labels[0]
		r.labels = r.labels[1:]
		if kind == 0 {
			return r.loop(depth-1, label)
		}
		return fmt.Sprintf("if %s label %d %s else %s", r.expr(3), label, r.block(depth-1), r.block(depth-1))
	}
	switch {
	case kind == 2 && depth > 1 && r.held == "":
		resource := pick(r, "r", "q")
		r.held = map[string]string{"r": "buf", "q": "que"}[resource]
		defer func() { r.held = "" }()
		return "lock " + resource + " " + r.block(depth-1)
	case kind == 3:
		return r.array() + "[" + r.expr(3) + "] = " + r.expr(3)
	}
	return r.name() + " = " + r.expr(4)
}

// whole returns a program that is right.
func (r *random) whole(t *testing.T) api.Program {
	const before = "resource r\nresource q\nshared buf 4 r\nshared que 2 q\n" +
		"task t period 200 deadline 150 priority 3 jitter 5\ninput x 0 15\ninput y -3 3\nvar i\nvar k\narray a 4\narray b 8\nbody\n"
	for {
		r.labels = r.Perm(api.MaxLabels)
		for i := range r.labels {
			r.labels[i]++
		}
		var l []string
		for range 1 + r.Intn(5) {
			l = append(l, r.stmt(1+r.Intn(5)))
		}
		p, line, e := parse.Program(before + strings.Join(l, " ") + "\nend\n")
		if e != api.OK {
			t.Fatalf("%q: error %d in line %d", l, e, line)
		}
		if check.Program(p) == api.OK {
			return p
		}
	}
}

// free is a proof that knows nothing: each loop has a counter.
func free() api.Proof {
	return api.Proof{Most: slices.Repeat(to(api.MaxMax), 13), Natural: make([]bool, 13)}
}

// TestFoldedTasks runs random tasks, with what is proved of them and with nothing: folded, they compute what their source does, with the same counts of points.
func TestFoldedTasks(t *testing.T) {
	r := &random{Rand: rand.New(rand.NewSource(41))}
	runs, decided, constants := 0, 0, 0
	for range 700 {
		p := r.whole(t)
		source, _ := print.Program(p)
		proved, e := infer.Prove(p, 0, []api.Range{{Hi: 15}, {Lo: -3, Hi: 3}})
		if e != api.OK {
			t.Fatalf("%s: error %d", source, e)
		}
		for _, proof := range []api.Proof{proved, free()} {
			g, e := graph.Lower(p, 0, proof)
			if e == api.ErrLimit {
				continue
			}
			x := against(t, g)
			for b := range g.Blocks {
				decided += len(g.Blocks[b].Next) - len(x.Blocks[b].Next)
				for i, o := range x.Blocks[b].Ops {
					if o.Kind == api.OpConst && g.Blocks[b].Ops[i].Kind != api.OpConst {
						constants++
					}
				}
			}
			for range 3 {
				in, shared := to(r.from(0, 15), r.from(-3, 3)), r.words([]api.Array{{Size: 4}, {Size: 2}})
				want, _ := eval.Run(p, 0, in, shared)
				before, _ := trace.Run(g, in, shared, api.MaxSteps)
				o, e := trace.Run(x, in, shared, api.MaxSteps)
				points, f := trace.Points(x, o.Counts)
				if e != api.OK || f != api.OK || text(o) != text(before) || !slices.Equal(points, want.Counts) {
					t.Fatalf("%s: the inputs %v, errors %d and %d, %+v\nnot %+v", source, in, e, f, o, before)
				}
				want.Counts, want.Steps = o.Counts, o.Steps
				if text(o) != text(want) {
					t.Fatalf("%s: the inputs %v, %+v\nnot %+v", source, in, o, want)
				}
				runs++
			}
		}
	}
	if runs < 3500 || decided < 100 || constants < 3000 {
		t.Errorf("%d runs, %d conditions are decided, %d operations have become constants", runs, decided, constants)
	}
}

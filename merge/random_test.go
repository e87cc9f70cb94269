package merge

import (
	"fmt"
	"math"
	"math/rand"
	"slices"
	"strings"
	"testing"
	"timebound/api"
	"timebound/check"
	"timebound/dead"
	"timebound/eval"
	"timebound/fact"
	"timebound/fold"
	"timebound/graph"
	"timebound/infer"
	"timebound/parse"
	"timebound/trace"
	"timebound/word"
)

// random is a maker of graphs, and of texts of tasks.
type random struct {
	*rand.Rand
	labels int // those that are used
	held   bool
}

func pick[T any](r *random, list ...T) T { return list[r.Intn(len(list))] }

func (r *random) from(lo, hi int) int { return lo + r.Intn(hi-lo+1) }

// op is an operation with all that it names.
func (r *random) op(g api.Graph) api.Op {
	v := func() int { return r.Intn(g.Vars) }
	switch kind := r.Intn(6); {
	case kind == 0:
		return constant(v(), word.Wrap(r.Int()>>r.Intn(64)))
	case kind == 1:
		return api.Op{Kind: api.OpCopy, Dst: v(), A: v()}
	case kind == 2 && len(g.Arrays) > 0:
		return api.Op{Kind: api.OpLoad, Dst: v(), A: v(), Imm: r.Intn(len(g.Arrays))}
	case kind == 3 && len(g.Arrays) > 0:
		return api.Op{Kind: api.OpStore, A: v(), B: v(), Imm: r.Intn(len(g.Arrays))}
	}
	return api.Op{Kind: api.OpBin, Dst: v(), A: v(), B: v(), Imm: r.from(api.Add, api.Ne)}
}

// list is the operations of a block.
func (r *random) list(g api.Graph) []api.Op {
	var list []api.Op
	if r.Intn(9) == 0 {
		list = append(list, lock(r.Intn(2)))
	}
	for range r.Intn(4) {
		list = append(list, r.op(g))
	}
	if r.Intn(9) == 0 {
		list = append(list, unlock(r.Intn(2)))
	}
	return list
}

// graph is a valid one. Most blocks lead to the next one of a row, some elsewhere, too, or only; what is behind the end is reached from there at most.
func (r *random) graph() api.Graph {
	g := api.Graph{Vars: r.from(1, 6), Blocks: make([]api.Block, r.from(1, 12))}
	g.Keep = r.Intn(g.Vars + 1)
	for range min(r.Intn(4), g.Keep) {
		lo := r.from(-3, 3)
		g.Inputs = append(g.Inputs, api.Input{Lo: lo, Hi: lo + r.Intn(4)})
	}
	for range r.Intn(4) {
		g.Arrays = append(g.Arrays, api.Array{Size: pick(r, 1, 2, 4, 8)})
	}
	g.Shared = r.Intn(len(g.Arrays) + 1)
	last := len(g.Blocks) - 1
	row := to(0)
	for _, b := range r.Perm(last) {
		row = append(row, b+1)
	}
	end := pick(r, last, last, r.Intn(last+1))
	for i, b := range row {
		g.Blocks[b].Ops = r.list(g)
		if i == end || last == 0 {
			continue
		}
		next := row[1+i%last]
		if other := r.from(1, last); r.Intn(4) == 0 && other != next {
			g.Blocks[b].Next = pick(r, to(next, other), to(other, next), to(other))
		} else {
			g.Blocks[b].Next = to(next)
		}
		if len(g.Blocks[b].Next) == 2 {
			g.Blocks[b].Cond = r.Intn(g.Vars)
		}
	}
	for b := range g.Blocks {
		if r.Intn(6) == 0 {
			g.Heads = append(g.Heads, api.Head{Block: b, Max: r.Intn(9)})
		}
	}
	for range r.Intn(4) {
		g.Points = append(g.Points, r.Perm(last + 1)[:r.Intn(min(last, 3)+2)])
	}
	return g
}

// words are the contents of some arrays.
func (r *random) words(arrays []api.Array) [][]int {
	var out [][]int
	for _, a := range arrays {
		list := make([]int, a.Size)
		for i := range list {
			list[i] = r.from(-9, 9)
		}
		out = append(out, list)
	}
	return out
}

// all are the operations of some blocks, one after the other.
func all(g api.Graph, parts []int) []api.Op {
	var out []api.Op
	for _, b := range parts {
		out = append(out, g.Blocks[b].Ops...)
	}
	return out
}

// takes reports whether a block takes another one, word by word. Both are lists of what they are made of, by the numbers of the graph that was given.
func takes(g api.Graph, a, b []int) bool {
	last, first := a[len(a)-1], b[0]
	if !slices.Equal(g.Blocks[last].Next, to(first)) || first == a[0] || first == 0 {
		return false
	}
	for c, block := range g.Blocks {
		if c != last && slices.Contains(block.Next, first) {
			return false
		}
	}
	for _, h := range g.Heads {
		if slices.Contains(b, h.Block) {
			return false
		}
	}
	for _, list := range g.Points {
		has := func(n int) bool { return slices.Contains(list, n) }
		if slices.ContainsFunc(a, has) && slices.ContainsFunc(b, has) {
			return false
		}
	}
	before, behind := all(g, a), all(g, b)
	return !(len(before) > 0 && before[len(before)-1].Kind == api.OpUnlock || len(behind) > 0 && behind[0].Kind == api.OpLock)
}

// slow joins what blocks are made of, and gives them their numbers at the end.
func slow(g api.Graph) (api.Graph, [][]int) {
	var list [][]int
	for b := range g.Blocks {
		list = append(list, to(b))
	}
again:
	for i, a := range list {
		for j, b := range list {
			if takes(g, a, b) {
				list[i] = slices.Concat(a, b)
				list = slices.Delete(list, j, j+1)
				goto again
			}
		}
	}
	now := func(old []int) []int {
		var out []int
		for _, b := range old {
			out = append(out, slices.IndexFunc(list, func(l []int) bool { return slices.Contains(l, b) }))
		}
		return out
	}
	x := g
	x.Blocks, x.Points, x.Heads = nil, nil, nil
	for _, l := range list {
		last := g.Blocks[l[len(l)-1]]
		x.Blocks = append(x.Blocks, api.Block{Ops: all(g, l), Cond: last.Cond, Next: now(last.Next)})
	}
	for _, l := range g.Points {
		x.Points = append(x.Points, now(l))
	}
	for _, h := range g.Heads {
		x.Heads = append(x.Heads, api.Head{Block: now(to(h.Block))[0], Max: h.Max})
	}
	var m [][]int
	for b := range g.Blocks {
		m = append(m, now(to(b)))
	}
	return x, m
}

// against compares with what this leads to.
func against(t *testing.T, g api.Graph) (api.Graph, [][]int) {
	t.Helper()
	x, l := merged(t, "a random one", g)
	if want, m := slow(g); text(x) != text(want) || text(l) != text(m) {
		t.Fatalf("%+v\nis  %+v, %v\nnot %+v, %v", g, x, l, want, m)
	}
	return x, l
}

// P16.1 for many graphs

// ways are all successors that a block of a graph with four blocks can have.
func ways() [][]int {
	list := [][]int{nil}
	for a := 1; a < 4; a++ {
		list = append(list, to(a))
		for b := 1; b < 4; b++ {
			if a != b {
				list = append(list, to(a, b))
			}
		}
	}
	return list
}

// TestAllSmallGraphs has all ways through four blocks, with some operations, points and heads.
func TestAllSmallGraphs(t *testing.T) {
	r := &random{Rand: rand.New(rand.NewSource(4))}
	tried, before, after := 0, 0, 0
	for _, a := range ways() {
		for _, b := range ways() {
			for _, c := range ways() {
				for _, d := range ways() {
					g := api.Graph{Vars: 9, Blocks: []api.Block{mark(1, a...), mark(2, b...), mark(3, c...), mark(4, d...)}}
					if graph.Check(g) != api.OK {
						continue
					}
					for n := range 4 {
						for b := range g.Blocks {
							if n > 0 {
								g.Blocks[b].Ops = r.list(g)
							}
						}
						if n > 1 {
							g.Points = [][]int{r.Perm(4)[:2], {r.Intn(4)}}
							g.Heads = []api.Head{{Block: r.Intn(4), Max: n}}
						}
						x, _ := against(t, g)
						tried, before, after = tried+1, before+4, after+len(x.Blocks)
					}
				}
			}
		}
	}
	if tried < 11000 || before-after < 1000 {
		t.Errorf("%d graphs of %d blocks have %d now", tried, before, after)
	}
}

// same compares two runs, before and after blocks were joined: each block was carried out as often as its parts were.
func same(t *testing.T, name string, before, after api.Outcome, l [][]int) {
	t.Helper()
	counts := make([]int, len(before.Counts))
	for b, list := range l {
		counts[b] = after.Counts[list[0]]
	}
	if !slices.Equal(counts, before.Counts) {
		t.Fatalf("%s: the counts %v by %v\nnot %v", name, after.Counts, l, before.Counts)
	}
	after.Counts = before.Counts
	if text(after) != text(before) {
		t.Fatalf("%s: %+v\nnot %+v", name, after, before)
	}
}

// TestRandomGraphs has graphs that compute what they did, with the same counts.
func TestRandomGraphs(t *testing.T) {
	r := &random{Rand: rand.New(rand.NewSource(16))}
	fewer, ended, locks := 0, 0, 0
	for range 6000 {
		g := r.graph()
		if e := graph.Check(g); e != api.OK {
			t.Fatalf("%+v: error %d", g, e)
		}
		x, l := against(t, g)
		fewer += len(g.Blocks) - len(x.Blocks)
		for range 3 {
			var in []int
			for _, i := range g.Inputs {
				in = append(in, r.from(i.Lo, i.Hi))
			}
			shared := r.words(g.Arrays[len(g.Arrays)-g.Shared:])
			name := fmt.Sprintf("%+v\nis %+v\nfor %v and %v", g, x, in, shared)
			want, e := trace.Run(g, in, shared, 300)
			o, f := trace.Run(x, in, shared, 300)
			if (e == api.OK || e == api.ErrLock) && f != e {
				t.Fatalf("%s: error %d, not %d", name, f, e)
			}
			switch e {
			case api.OK:
				ended++
				same(t, name, want, o, l)
				counts, _ := trace.Points(g, want.Counts)
				if points, e := trace.Points(x, o.Counts); e != api.OK || !slices.Equal(points, counts) {
					t.Fatalf("%s: error %d, the points %v, not %v", name, e, points, counts)
				}
			case api.ErrLock:
				locks++
			}
		}
	}
	if fewer < 10000 || ended < 8000 || locks < 5000 {
		t.Errorf("%d blocks are parts of others, %d runs came to their end, %d to an error", fewer, ended, locks)
	}
}

// TestAnything has graphs of any numbers: all calls end, and what Check refuses is refused.
func TestAnything(t *testing.T) {
	r := &random{Rand: rand.New(rand.NewSource(1))}
	n := func() int { return pick(r, 0, 0, 1, 1, 2, 3, -1, 64, math.MinInt, math.MaxInt) }
	list := func() []int { return []int{n(), n(), n()}[:r.Intn(4)] }
	op := func() []api.Op { return ops(api.Op{Kind: r.Intn(9), Dst: n(), A: n(), B: n(), Imm: n()}) }
	found := map[api.Errno]int{}
	for range 12000 {
		g := r.graph()
		b := r.Intn(len(g.Blocks))
		switch r.Intn(9) {
		case 0:
			g.Vars, g.Keep = n(), n()
		case 1:
			g.Shared, g.Arrays = n(), append(g.Arrays, api.Array{Size: n()})
		case 2:
			g.Inputs = append(g.Inputs, api.Input{Lo: n(), Hi: n()})
		case 3:
			g.Blocks = append(g.Blocks, api.Block{Ops: op(), Cond: n(), Next: list()})
		case 4:
			g.Points, g.Heads = append(g.Points, list()), append(g.Heads, api.Head{Block: n(), Max: n()})
		case 5:
			g.Blocks[b].Ops = append(g.Blocks[b].Ops, op()...)
		case 6:
			g.Blocks[b].Cond, g.Blocks[b].Next = n(), list()
		}
		want := graph.Check(g)
		found[want]++
		if want == api.OK {
			against(t, g)
			continue
		}
		before := text(g)
		if x, l, e := Merge(g); e != want || text(x) != text(api.Graph{}) || len(l) != 0 || text(g) != before {
			t.Fatalf("%s: error %d, not %d, %+v, %v", before, e, want, x, l)
		}
	}
	if found[api.OK] < 3000 || found[api.ErrForm] < 3000 || found[api.ErrLimit] < 100 {
		t.Errorf("%v", found)
	}
}

// The consequences, for tasks

// label is a new one.
func (r *random) label() string {
	r.labels++
	return fmt.Sprint(" label ", r.labels, " ")
}

// stmt is a statement, of so many levels.
func (r *random) stmt(depth int) string {
	expr := func() string {
		return pick(r, "x", "y", "i", "k", "3", "a[i]", "a[x]", "(x<y)", "(i+1)", "(k*x)", "(a[k]-i)", "(y&1)")
	}
	kind := r.Intn(6)
	if depth == 0 {
		kind = r.Intn(2)
	}
	switch {
	case kind == 0:
		return "a[" + expr() + "] = " + expr()
	case kind == 2 && r.labels < api.MaxLabels:
		return "if " + pick(r, expr(), "0", "1") + r.label() + r.body(depth-1) + " else " + r.body(depth-1)
	case kind == 3 && r.labels < api.MaxLabels:
		return fmt.Sprint("while ", pick(r, "(i<3)", "(k<x)", expr(), "0"), " max ", r.Intn(5), r.label(), "{ i = (i+1) k = (k+2) ", r.body(depth - 1)[1:])
	case kind == 4 && !r.held:
		r.held = true
		defer func() { r.held = false }()
		return "lock r { buf[x] = (buf[i]+1) " + r.body(depth - 1)[1:]
	}
	return pick(r, "x", "y", "i", "k") + " = " + expr()
}

// body is some statements, or none.
func (r *random) body(depth int) string {
	var l []string
	for range r.Intn(4) {
		l = append(l, r.stmt(depth))
	}
	return "{ " + strings.Join(l, " ") + " }"
}

// task returns the text of a task, and its program, which is right.
func (r *random) task(t *testing.T) (string, api.Program) {
	for {
		r.labels = 0
		body := r.stmt(4) + " " + strings.Trim(r.body(4), "{}") + r.stmt(4)
		p, line, e := parse.Program("resource r\nshared buf 4 r\ntask t period 200 deadline 150 priority 3 jitter 5\ninput x 0 15\ninput y -3 3\nvar i\nvar k\narray a 4\nbody\n" + body + "\nend\n")
		if e != api.OK {
			t.Fatalf("%q: error %d in line %d", body, e, line)
		}
		if check.Program(p) == api.OK {
			return body, p
		}
	}
}

// loops are the headers of a graph, as blocks of another one, with Max. A graph that can be lowered has no wrong loops.
func loops(t *testing.T, name string, g api.Graph, l [][]int) string {
	list, e := graph.Loops(g)
	if e != api.OK {
		t.Fatalf("%s: loops: error %d, %+v", name, e, g)
	}
	var out []string
	for _, loop := range list {
		out = append(out, fmt.Sprint(l[loop.Header], loop.Max, l[loop.Before]))
	}
	slices.Sort(out)
	return strings.Join(out, ", ")
}

// itself is the map of a graph to itself.
func itself(g api.Graph) [][]int {
	var l [][]int
	for b := range g.Blocks {
		l = append(l, to(b))
	}
	return l
}

// TestTasks runs random tasks, with what is proved of them and with nothing, as they are, folded, and without what is not needed: with fewer blocks, they compute what their source does, with the same counts of points, what is proved of these still holds, and the loops are those that were there.
func TestTasks(t *testing.T) {
	r := &random{Rand: rand.New(rand.NewSource(61))}
	runs, fewer, facts, rounds := 0, 0, 0, 0
	for range 400 {
		source, p := r.task(t)
		proved, e := infer.Prove(p, 0, []api.Range{{Hi: 15}, {Lo: -3, Hi: 3}})
		if e != api.OK {
			t.Fatalf("%s: error %d", source, e)
		}
		free := api.Proof{Most: slices.Repeat(to(api.MaxMax), 13), Natural: make([]bool, 13)}
		for i, proof := range []api.Proof{proved, free, proved, free, proved, free} {
			g, e := graph.Lower(p, 0, proof)
			if e == api.ErrLimit {
				continue
			}
			if i > 1 {
				g, _, _ = fold.Fold(g)
			}
			if i > 3 {
				g, _, _ = dead.Dead(g)
			}
			x, l := against(t, g)
			fewer += len(g.Blocks) - len(x.Blocks)
			if was, is := loops(t, source, g, l), loops(t, source, x, itself(x)); was != is {
				t.Fatalf("%s: the loops %s\nnot %s", source, is, was)
			} else if is != "" {
				rounds++
			}
			for range 2 {
				in, shared := to(r.from(0, 15), r.from(-3, 3)), r.words([]api.Array{{Size: 4}})
				name := fmt.Sprintf("%s: the inputs %v", source, in)
				want, _ := eval.Run(p, 0, in, shared)
				before, _ := trace.Run(g, in, shared, api.MaxSteps)
				o, e := trace.Run(x, in, shared, api.MaxSteps)
				points, f := trace.Points(x, o.Counts)
				if e != api.OK || f != api.OK || !slices.Equal(points, want.Counts) {
					t.Fatalf("%s, errors %d and %d, %v, not %v", name, e, f, points, want.Counts)
				}
				same(t, name, before, o, l)
				for _, claim := range proof.Facts {
					facts++
					if m, e := fact.Map(claim, x.Points); e != api.OK || !fact.Holds(m, o.Counts) {
						t.Fatalf("%s: error %d, %+v, the fact %+v for the counts %v", name, e, claim, m, o.Counts)
					}
				}
				want.Counts, want.Steps = o.Counts, o.Steps
				if text(o) != text(want) {
					t.Fatalf("%s: %+v\nnot %+v", name, o, want)
				}
				runs++
			}
		}
	}
	if runs < 3000 || fewer < 2000 || facts < 10000 || rounds < 500 {
		t.Errorf("%d runs, %d facts, %d graphs with loops, %d blocks are parts of others", runs, facts, rounds, fewer)
	}
}

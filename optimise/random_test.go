package optimise

import (
	"fmt"
	"math"
	"math/rand"
	"slices"
	"strings"
	"testing"
	"timebound/api"
	"timebound/check"
	"timebound/dead"
	"timebound/eval"
	"timebound/fact"
	"timebound/fold"
	"timebound/graph"
	"timebound/infer"
	"timebound/merge"
	"timebound/parse"
	"timebound/trace"
	"timebound/unroll"
	"timebound/word"
)

// random is a maker of graphs, of passes, and of texts of tasks.
type random struct {
	*rand.Rand
	next   [][]int // the successors of the blocks of a graph in the making
	labels int     // those that are used
	held   bool
}

func pick[T any](r *random, list ...T) T { return list[r.Intn(len(list))] }

func (r *random) from(lo, hi int) int { return lo + r.Intn(hi-lo+1) }

// op is an operation with all that it names.
func (r *random) op(g api.Graph) api.Op {
	v := func() int { return r.Intn(g.Vars) }
	switch kind := r.Intn(6); {
	case kind == 0:
		return constant(v(), word.Wrap(r.Int()>>r.Intn(64)))
	case kind == 1:
		return api.Op{Kind: api.OpCopy, Dst: v(), A: v()}
	case kind == 2 && len(g.Arrays) > 0:
		return api.Op{Kind: api.OpLoad, Dst: v(), A: v(), Imm: r.Intn(len(g.Arrays))}
	case kind == 3 && len(g.Arrays) > 0:
		return api.Op{Kind: api.OpStore, A: v(), B: v(), Imm: r.Intn(len(g.Arrays))}
	}
	return api.Op{Kind: api.OpBin, Dst: v(), A: v(), B: v(), Imm: r.from(api.Add, api.Ne)}
}

// list is the operations of a block, perhaps with locks.
func (r *random) list(g api.Graph, locks bool) []api.Op {
	var list []api.Op
	if locks && r.Intn(9) == 0 {
		list = append(list, api.Op{Kind: api.OpLock, Imm: r.Intn(2)})
	}
	for range r.Intn(4) {
		list = append(list, r.op(g))
	}
	if locks && r.Intn(9) == 0 {
		list = append(list, api.Op{Kind: api.OpUnlock, Imm: r.Intn(2)})
	}
	return list
}

// block adds one that leads nowhere.
func (r *random) block() int {
	r.next = append(r.next, nil)
	return len(r.next) - 1
}

// parts adds some blocks behind one that leads nowhere, and returns the last one of them: blocks alone, ifs, and loops that are tested at their beginning or at their end.
func (r *random) parts(last, depth int) int {
	for range r.Intn(4) {
		begin := r.block()
		kind := r.Intn(4)
		if depth == 0 {
			kind = 0
		}
		r.next[last] = to(begin)
		last = begin
		switch kind {
		case 1:
			yes, no := r.block(), r.block()
			r.next[begin] = to(yes, no)
			yes, no, last = r.parts(yes, depth-1), r.parts(no, depth-1), r.block()
			r.next[yes], r.next[no] = to(last), to(last)
		case 2:
			body, exit := r.block(), r.block()
			r.next[begin] = pick(r, to(body, exit), to(exit, body))
			back := r.parts(body, depth-1)
			r.next[back], last = to(begin), exit
		case 3:
			back := r.parts(begin, depth-1)
			last = r.block()
			r.next[back] = pick(r, to(begin, last), to(last, begin))
		}
	}
	return last
}

// shape makes successors: some blocks, behind each other and not reached at all, lead elsewhere, too, and numbers of blocks say nothing about their order.
func (r *random) shape() [][]int {
	r.next = nil
	r.parts(r.block(), r.from(1, 3))
	for range pick(r, 0, 0, 1, 2) {
		b := r.block()
		r.next[b] = to(r.from(1, b))
	}
	for range r.Intn(4) {
		b, other := r.Intn(len(r.next)), r.from(0, len(r.next)-1)
		if l := r.next[b]; len(l) == 1 && other != 0 && other != l[0] {
			r.next[b] = pick(r, to(l[0], other), to(other, l[0]))
		}
	}
	place := append(to(0), r.Perm(len(r.next)-1)...)
	for i := range place[1:] {
		place[i+1]++
	}
	shuffled := make([][]int, len(r.next))
	for b, l := range r.next {
		for _, n := range l {
			shuffled[place[b]] = append(shuffled[place[b]], place[n])
		}
	}
	return shuffled
}

// graph is a valid one. Many have loops, some have none that graph's Loops can name.
func (r *random) graph() api.Graph {
	g := api.Graph{Vars: r.from(1, 6)}
	g.Keep = r.Intn(g.Vars + 1)
	for range min(r.Intn(4), g.Keep) {
		lo := r.from(-3, 3)
		g.Inputs = append(g.Inputs, api.Input{Lo: lo, Hi: lo + r.Intn(4)})
	}
	for range r.Intn(4) {
		g.Arrays = append(g.Arrays, api.Array{Size: pick(r, 1, 2, 4, 8)})
	}
	g.Shared = r.Intn(len(g.Arrays) + 1)
	locks := r.Intn(4) == 0
	for b, next := range r.shape() {
		g.Blocks = append(g.Blocks, api.Block{Ops: r.list(g, locks), Next: next})
		if len(next) == 2 {
			g.Blocks[b].Cond = r.Intn(g.Vars)
		}
		g.Heads = append(g.Heads, api.Head{Block: b, Max: pick(r, 0, 1, 2, 3, r.Intn(20))})
	}
	for range r.Intn(3) {
		g.Points = append(g.Points, r.Perm(len(g.Blocks))[:r.Intn(min(len(g.Blocks), 4)+1)])
	}
	// Most graphs have the heads of their loops alone, as others keep blocks from being joined.
	if loops, e := graph.Loops(g); e == api.OK && r.Intn(5) > 0 {
		g.Heads = slices.DeleteFunc(g.Heads, func(h api.Head) bool {
			return !slices.ContainsFunc(loops, func(l api.Loop) bool { return l.Header == h.Block })
		})
	}
	return g
}

// words are the contents of some arrays.
func (r *random) words(arrays []api.Array) [][]int {
	var out [][]int
	for _, a := range arrays {
		list := make([]int, a.Size)
		for i := range list {
			list[i] = r.from(-9, 9)
		}
		out = append(out, list)
	}
	return out
}

// once carries out one pass, by the function of its layer.
func once(g api.Graph, p api.Pass) (api.Graph, [][]int, api.Errno) {
	switch p.Kind {
	case api.PassFold:
		return fold.Fold(g)
	case api.PassDead:
		return dead.Dead(g)
	case api.PassMerge:
		return merge.Merge(g)
	case api.PassUnroll:
		return unroll.Unroll(g, p.Arg)
	}
	return api.Graph{}, nil, api.ErrKind
}

// slow carries out passes sentence by sentence of the chapter.
func slow(g api.Graph, l []api.Pass) (api.Graph, [][]int, api.Errno) {
	if e := graph.Check(g); e != api.OK {
		return api.Graph{}, nil, e
	}
	if len(l) > 16 {
		return api.Graph{}, nil, api.ErrLimit
	}
	var all [][]int
	for b := range g.Blocks {
		all = append(all, to(b))
	}
	for _, p := range l {
		x, m, e := once(g, p)
		if e != api.OK {
			return api.Graph{}, nil, e
		}
		g = x
		for b, list := range all {
			all[b] = nil
			for _, old := range list {
				all[b] = append(all[b], m[old]...)
			}
			if len(all[b]) > 256 {
				return api.Graph{}, nil, api.ErrLimit
			}
		}
	}
	return g, all, api.OK
}

// usual are the passes for a graph, sentence by sentence of the chapter.
func usual(g api.Graph) ([]api.Pass, api.Errno) {
	three := row("F D M")
	x, _, e := slow(g, three)
	if e != api.OK {
		return nil, e
	}
	loops, e := graph.Loops(x)
	if e != api.OK {
		return nil, e
	}
	operations := 0
	for _, b := range x.Blocks {
		operations += len(b.Ops)
	}
	for i, l := range loops {
		inner := slices.ContainsFunc(loops, func(other api.Loop) bool { return other.Around == i })
		if !inner && l.Max > 1 && len(x.Blocks) < 33 && operations < 301 {
			return slices.Concat(three, []api.Pass{{Kind: api.PassUnroll, Arg: l.Header}}, three), api.OK
		}
	}
	return three, api.OK
}

// row is some passes for a graph. Most of those that unroll find a loop.
func (r *random) row(g api.Graph, most int) []api.Pass {
	var l []api.Pass
	for range r.Intn(most + 1) {
		p := api.Pass{Kind: pick(r, api.PassFold, api.PassDead, api.PassMerge, api.PassUnroll)}
		if loops, _ := graph.Loops(g); p.Kind == api.PassUnroll && len(loops) > 0 && r.Intn(50) > 0 {
			p.Arg = pick(r, loops...).Header
		} else if p.Kind == api.PassUnroll && r.Intn(20) > 0 {
			continue
		} else if r.Intn(100) == 0 {
			p = api.Pass{Kind: pick(r, 0, 5, -1, 4), Arg: r.Intn(9)}
		}
		l = append(l, p)
		if x, _, e := once(g, p); e == api.OK {
			g = x
		}
	}
	return l
}

// against compares with what the passes lead to one by one.
func against(t *testing.T, g api.Graph, l []api.Pass) (api.Graph, [][]int, api.Errno) {
	t.Helper()
	want, m, e := slow(g, l)
	if e != api.OK {
		refused(t, "a random one", g, l, e)
		return api.Graph{}, nil, e
	}
	x, to := ran(t, "a random one", g, l)
	if text(x) != text(want) || text(to) != text(m) {
		t.Fatalf("%+v, %v\nis  %+v, %v\nnot %+v, %v", g, l, x, to, want, m)
	}
	return x, to, api.OK
}

// same compares two runs, before and behind passes: the counts of blocks add up, as do those of points and of facts, there are no more steps, and all else is the same.
func same(t *testing.T, r *random, g, x api.Graph, m [][]int, in []int, shared [][]int, most int) api.Errno {
	t.Helper()
	fail := func(is, want any) {
		t.Helper()
		t.Fatalf("%+v\nis %+v\nby %v, for %v and %v: %+v\nnot %+v", g, x, m, in, shared, is, want)
	}
	want, e := trace.Run(g, in, shared, most)
	o, f := trace.Run(x, in, shared, most)
	// What has fewer operations can come further.
	if f != e && e != api.ErrSteps {
		fail(f, e)
	}
	if e != api.OK {
		return e
	}
	points, _ := trace.Points(g, want.Counts)
	if now, e := trace.Points(x, o.Counts); e != api.OK || !slices.Equal(now, points) {
		fail(now, points)
	}
	counts := make([]int, len(g.Blocks))
	for b, list := range m {
		for _, n := range list {
			counts[b] += o.Counts[n]
		}
	}
	for range 3 {
		alike(t, r.fact(t, len(g.Blocks)), m, want.Counts, o.Counts)
	}
	if o.Steps > want.Steps {
		fail(o.Steps, want.Steps)
	}
	o.Counts, o.Steps = counts, want.Steps
	if text(o) != text(want) {
		fail(o, want)
	}
	return api.OK
}

// fact is one about some blocks.
func (r *random) fact(t *testing.T, blocks int) api.Fact {
	t.Helper()
	var l []api.Term
	for range r.from(1, 4) {
		l = append(l, api.Term{Of: r.Intn(blocks), Coef: r.from(-3, 3)})
	}
	f, e := fact.Of(l, r.from(-5, 5))
	if e != api.OK {
		t.Fatalf("%v: error %d", l, e)
	}
	return f
}

// alike carries a fact along a map: it says of the new counts what it said of the old ones.
func alike(t *testing.T, f api.Fact, m [][]int, before, behind []int) {
	t.Helper()
	x, e := fact.Map(f, m)
	if e == api.ErrLimit {
		return
	}
	a, d := fact.Sum(f, before)
	b, c := fact.Sum(x, behind)
	if e != api.OK || c != api.OK || d != api.OK || a != b || fact.Holds(f, before) != fact.Holds(x, behind) {
		t.Fatalf("%+v by %v is %+v: errors %d, %d, %d, %d for %v, %d for %v", f, m, x, e, c, d, b, behind, a, before)
	}
}

// inputs are in their ranges.
func (r *random) inputs(g api.Graph) []int {
	var in []int
	for _, i := range g.Inputs {
		in = append(in, r.from(i.Lo, i.Hi))
	}
	return in
}

// P18.1 to P18.3, and the consequences, for many graphs

// TestRandomPasses has graphs that compute what they did, with counts that add up, behind passes in any order.
func TestRandomPasses(t *testing.T) {
	r := &random{Rand: rand.New(rand.NewSource(18))}
	errors, runs, unrolled, long := map[api.Errno]int{}, map[api.Errno]int{}, 0, 0
	for range 4000 {
		g := r.graph()
		l := r.row(g, pick(r, 5, 9, 17))
		x, m, e := against(t, g, l)
		errors[e]++
		if e != api.OK {
			continue
		}
		if slices.ContainsFunc(l, func(p api.Pass) bool { return p.Kind == api.PassUnroll }) {
			unrolled++
		}
		long += len(l) / 9
		for range 2 {
			shared := r.words(g.Arrays[len(g.Arrays)-g.Shared:])
			runs[same(t, r, g, x, m, r.inputs(g), shared, pick(r, 300, 300, r.Intn(60)))]++
		}
	}
	if errors[api.OK] < 2500 || errors[api.ErrKind] < 50 || errors[api.ErrBlock] < 20 || errors[api.ErrForm] < 20 || errors[api.ErrLimit] < 100 {
		t.Errorf("errors: %v", errors)
	}
	if unrolled < 800 || long < 300 || runs[api.OK] < 2500 || runs[api.ErrSteps] < 500 || runs[api.ErrLock] < 100 {
		t.Errorf("%d unrolled, %d long ones, runs by errors: %v", unrolled, long, runs)
	}
}

// TestRandomStandard has the usual passes for graphs, of which Run has no error: behind them there are no more operations and blocks than twice those before, and without Unroll no more at all.
func TestRandomStandard(t *testing.T) {
	r := &random{Rand: rand.New(rand.NewSource(28))}
	errors, short, long := map[api.Errno]int{}, 0, 0
	for range 4000 {
		g := r.graph()
		want, e := usual(g)
		errors[e]++
		l, f := Standard(g)
		if f != e || !slices.Equal(l, want) {
			t.Fatalf("%+v: error %d, not %d, %v, not %v", g, f, e, l, want)
		}
		if e != api.OK {
			continue
		}
		x, m, e := against(t, g, l)
		cost := Cost(g)
		if len(l) > 3 {
			long++
			cost *= 2
		} else {
			short++
		}
		if e != api.OK || Cost(x) > cost {
			t.Fatalf("%+v: error %d, %v, %d, not %d", g, e, l, Cost(x), Cost(g))
		}
		for range 2 {
			shared := r.words(g.Arrays[len(g.Arrays)-g.Shared:])
			same(t, r, g, x, m, r.inputs(g), shared, 300)
		}
	}
	if errors[api.OK] < 2500 || errors[api.ErrForm] < 200 || short < 800 || long < 800 {
		t.Errorf("errors: %v, %d short ones, %d long ones", errors, short, long)
	}
}

// TestAnything has graphs of any numbers, and any passes: all calls end, and what Check refuses is refused.
func TestAnything(t *testing.T) {
	r := &random{Rand: rand.New(rand.NewSource(1))}
	n := func() int { return pick(r, 0, 0, 1, 1, 2, 3, -1, 64, math.MinInt, math.MaxInt) }
	list := func() []int { return []int{n(), n(), n()}[:r.Intn(4)] }
	op := func() []api.Op { return ops(api.Op{Kind: r.Intn(9), Dst: n(), A: n(), B: n(), Imm: n()}) }
	found := map[api.Errno]int{}
	for range 6000 {
		g := r.graph()
		b := r.Intn(len(g.Blocks))
		switch r.Intn(9) {
		case 0:
			g.Vars, g.Keep = n(), n()
		case 1:
			g.Shared, g.Arrays = n(), append(g.Arrays, api.Array{Size: n()})
		case 2:
			g.Inputs = append(g.Inputs, api.Input{Lo: n(), Hi: n()})
		case 3:
			g.Blocks = append(g.Blocks, api.Block{Ops: op(), Cond: n(), Next: list()})
		case 4:
			g.Points, g.Heads = append(g.Points, list()), append(g.Heads, api.Head{Block: n(), Max: n()})
		case 5:
			g.Blocks[b].Ops = append(g.Blocks[b].Ops, op()...)
		case 6:
			g.Blocks[b].Cond, g.Blocks[b].Next = n(), list()
		}
		var l []api.Pass
		for range r.Intn(pick(r, 3, 20)) {
			l = append(l, api.Pass{Kind: pick(r, 1, 2, 3, 4, n()), Arg: n()})
		}
		_, _, e := against(t, g, l)
		found[e]++
		want, e := usual(g)
		if l, f := Standard(g); f != e || !slices.Equal(l, want) {
			t.Fatalf("%+v: error %d, not %d, %v, not %v", g, f, e, l, want)
		}
		cost := 0
		for _, b := range g.Blocks {
			cost += 1 + len(b.Ops)
		}
		if Cost(g) != cost {
			t.Fatalf("%+v: %d, not %d", g, Cost(g), cost)
		}
	}
	if found[api.OK] < 500 || found[api.ErrBlock] < 100 || found[api.ErrForm] < 1000 || found[api.ErrLimit] < 100 || found[api.ErrKind] < 300 {
		t.Errorf("%v", found)
	}
}

// T1, T2 and T7 for tasks

// label is a new one.
func (r *random) label() string {
	r.labels++
	return fmt.Sprint(" label ", r.labels, " ")
}

// stmt is a statement, of so many levels.
func (r *random) stmt(depth int) string {
	expr := func() string {
		return pick(r, "x", "y", "i", "k", "3", "a[i]", "a[x]", "(x<y)", "(i+1)", "(k*x)", "(a[k]-i)", "(y&1)")
	}
	kind := r.Intn(6)
	if depth == 0 {
		kind = r.Intn(2)
	}
	switch {
	case kind == 0:
		return "a[" + expr() + "] = " + expr()
	case kind == 2 && r.labels < api.MaxLabels:
		return "if " + pick(r, expr(), "0", "1") + r.label() + r.body(depth-1) + " else " + r.body(depth-1)
	case kind > 3 && r.labels < api.MaxLabels:
		return fmt.Sprint("while ", pick(r, "(i<3)", "(k<x)", expr(), "(i!=x)"), " max ", r.Intn(9), r.label(), "{ i = (i+1) k = (k+2) ", r.body(depth - 1)[1:])
	case kind == 3 && !r.held:
		r.held = true
		defer func() { r.held = false }()
		return "lock r { buf[x] = (buf[i]+1) " + r.body(depth - 1)[1:]
	}
	return pick(r, "x", "y", "i", "k") + " = " + expr()
}

// body is some statements, or none.
func (r *random) body(depth int) string {
	var l []string
	for range r.Intn(4) {
		l = append(l, r.stmt(depth))
	}
	return "{ " + strings.Join(l, " ") + " }"
}

// task returns the text of a task, and its program, which is right.
func (r *random) task(t *testing.T) (string, api.Program) {
	for {
		r.labels = 0
		body := r.stmt(3) + " " + strings.Trim(r.body(3), "{}") + r.stmt(3)
		p, line, e := parse.Program("resource r\nshared buf 4 r\ntask t period 200 deadline 150 priority 3 jitter 5\ninput x 0 15\ninput y -3 3\nvar i\nvar k\narray a 4\nbody\n" + body + "\nend\n")
		if e != api.OK {
			t.Fatalf("%q: error %d in line %d", body, e, line)
		}
		if check.Program(p) == api.OK {
			return body, p
		}
	}
}

// often reports whether the header of each loop is carried out as often as Max permits, at most.
func often(loops []api.Loop, counts []int) bool {
	return !slices.ContainsFunc(loops, func(l api.Loop) bool { return counts[l.Header] > (l.Max+1)*counts[l.Before] })
}

// job compares a run of a graph with loops with one of the source: both compute the same, with the same counts of points, what is proved of these holds, and no loop has more rounds than its Max permits.
func job(t *testing.T, name string, p api.Program, x api.Graph, facts []api.Fact, in []int, shared [][]int) {
	t.Helper()
	want, _ := eval.Run(p, 0, in, shared)
	o, _ := trace.Run(x, in, shared, api.MaxSteps)
	points, e := trace.Points(x, o.Counts)
	loops, f := graph.Loops(x)
	if e != api.OK || f != api.OK || !slices.Equal(points, want.Counts) || !often(loops, o.Counts) {
		t.Fatalf("%s, the inputs %v: errors %d and %d, %v, not %v, %+v, %+v", name, in, e, f, points, want.Counts, loops, o)
	}
	for _, claim := range facts {
		if f, e := fact.Map(claim, x.Points); e != api.OK || !fact.Holds(f, o.Counts) {
			t.Fatalf("%s, the inputs %v: error %d, %+v, the fact %+v for the counts %v", name, in, e, claim, f, o.Counts)
		}
	}
	want.Counts, want.Steps = o.Counts, o.Steps
	if text(o) != text(want) {
		t.Fatalf("%s, the inputs %v: %+v\nnot %+v", name, in, o, want)
	}
}

// TestTasks runs random tasks, with what is proved of them and with nothing, behind the usual passes, and behind any others.
func TestTasks(t *testing.T) {
	r := &random{Rand: rand.New(rand.NewSource(88))}
	usual, others, twice, facts, less := 0, 0, 0, 0, 0
	for range 400 {
		source, p := r.task(t)
		proved, e := infer.Prove(p, 0, []api.Range{{Hi: 15}, {Lo: -3, Hi: 3}})
		if e != api.OK {
			t.Fatalf("%s: error %d", source, e)
		}
		free := api.Proof{Most: slices.Repeat(to(api.MaxMax), 13), Natural: make([]bool, 13)}
		for _, proof := range []api.Proof{proved, free} {
			g, e := graph.Lower(p, 0, proof)
			if e == api.ErrLimit {
				continue
			}
			l, e := Standard(g)
			if e != api.OK {
				t.Fatalf("%s: error %d", source, e)
			}
			twice += len(l) / 7
			for i, l := range [][]api.Pass{l, r.row(g, 9)} {
				x, m, e := against(t, g, l)
				if i == 0 {
					usual++
					less += Cost(g) - Cost(x)
				}
				if e != api.OK && i > 0 {
					continue
				}
				others += i
				facts += len(proof.Facts)
				for range 2 {
					in, shared := to(r.from(0, 15), r.from(-3, 3)), r.words([]api.Array{{Size: 4}})
					job(t, source, p, x, proof.Facts, in, shared)
					if e := same(t, r, g, x, m, in, shared, api.MaxSteps); e != api.OK {
						t.Fatalf("%s: error %d", source, e)
					}
				}
			}
		}
	}
	if usual < 600 || others < 450 || twice < 200 || facts < 10000 || less < 1000 {
		t.Errorf("%d usual rows, %d of them with Unroll, %d others, %d facts, %d less", usual, twice, others, facts, less)
	}
}

package unroll

import (
	"fmt"
	"math"
	"math/rand"
	"slices"
	"strings"
	"testing"
	"timebound/api"
	"timebound/check"
	"timebound/dead"
	"timebound/eval"
	"timebound/fact"
	"timebound/fold"
	"timebound/graph"
	"timebound/infer"
	"timebound/merge"
	"timebound/parse"
	"timebound/trace"
	"timebound/word"
)

// random is a maker of graphs, and of texts of tasks.
type random struct {
	*rand.Rand
	next   [][]int // the successors of the blocks of a graph in the making
	labels int     // those that are used
	held   bool
}

func pick[T any](r *random, list ...T) T { return list[r.Intn(len(list))] }

func (r *random) from(lo, hi int) int { return lo + r.Intn(hi-lo+1) }

// op is an operation with all that it names.
func (r *random) op(g api.Graph) api.Op {
	v := func() int { return r.Intn(g.Vars) }
	switch kind := r.Intn(6); {
	case kind == 0:
		return constant(v(), word.Wrap(r.Int()>>r.Intn(64)))
	case kind == 1:
		return api.Op{Kind: api.OpCopy, Dst: v(), A: v()}
	case kind == 2 && len(g.Arrays) > 0:
		return api.Op{Kind: api.OpLoad, Dst: v(), A: v(), Imm: r.Intn(len(g.Arrays))}
	case kind == 3 && len(g.Arrays) > 0:
		return api.Op{Kind: api.OpStore, A: v(), B: v(), Imm: r.Intn(len(g.Arrays))}
	}
	return api.Op{Kind: api.OpBin, Dst: v(), A: v(), B: v(), Imm: r.from(api.Add, api.Ne)}
}

// list is the operations of a block, perhaps with locks.
func (r *random) list(g api.Graph, locks bool) []api.Op {
	var list []api.Op
	if locks && r.Intn(9) == 0 {
		list = append(list, api.Op{Kind: api.OpLock, Imm: r.Intn(2)})
	}
	for range r.Intn(4) {
		list = append(list, r.op(g))
	}
	if locks && r.Intn(9) == 0 {
		list = append(list, api.Op{Kind: api.OpUnlock, Imm: r.Intn(2)})
	}
	return list
}

// block adds one that leads nowhere.
func (r *random) block() int {
	r.next = append(r.next, nil)
	return len(r.next) - 1
}

// parts adds some blocks behind one that leads nowhere, and returns the last one of them: blocks alone, ifs, and loops that are tested at their beginning or at their end.
func (r *random) parts(last, depth int) int {
	for range r.Intn(4) {
		begin := r.block()
		kind := r.Intn(4)
		if depth == 0 {
			kind = 0
		}
		r.next[last] = to(begin)
		last = begin
		switch kind {
		case 1:
			yes, no := r.block(), r.block()
			r.next[begin] = to(yes, no)
			yes, no, last = r.parts(yes, depth-1), r.parts(no, depth-1), r.block()
			r.next[yes], r.next[no] = to(last), to(last)
		case 2:
			body, exit := r.block(), r.block()
			r.next[begin] = pick(r, to(body, exit), to(exit, body))
			back := r.parts(body, depth-1)
			r.next[back], last = to(begin), exit
		case 3:
			back := r.parts(begin, depth-1)
			last = r.block()
			r.next[back] = pick(r, to(begin, last), to(last, begin))
		}
	}
	return last
}

// shape makes successors: some blocks, behind each other and not reached at all, lead elsewhere, too, and numbers of blocks say nothing about their order.
func (r *random) shape() [][]int {
	r.next = nil
	r.parts(r.block(), r.from(1, 3))
	for range pick(r, 0, 0, 1, 2) {
		b := r.block()
		r.next[b] = to(r.from(1, b))
	}
	for range r.Intn(4) {
		b, other := r.Intn(len(r.next)), r.from(0, len(r.next)-1)
		if l := r.next[b]; len(l) == 1 && other != 0 && other != l[0] {
			r.next[b] = pick(r, to(l[0], other), to(other, l[0]))
		}
	}
	place := append(to(0), r.Perm(len(r.next)-1)...)
	for i := range place[1:] {
		place[i+1]++
	}
	shuffled := make([][]int, len(r.next))
	for b, l := range r.next {
		for _, n := range l {
			shuffled[place[b]] = append(shuffled[place[b]], place[n])
		}
	}
	return shuffled
}

// graph is one with loops, and these.
func (r *random) graph() (api.Graph, []api.Loop) {
	for {
		g := api.Graph{Vars: r.from(1, 6)}
		g.Keep = r.Intn(g.Vars + 1)
		for range min(r.Intn(4), g.Keep) {
			lo := r.from(-3, 3)
			g.Inputs = append(g.Inputs, api.Input{Lo: lo, Hi: lo + r.Intn(4)})
		}
		for range r.Intn(4) {
			g.Arrays = append(g.Arrays, api.Array{Size: pick(r, 1, 2, 4, 8)})
		}
		g.Shared = r.Intn(len(g.Arrays) + 1)
		headers, locks := r.Intn(4) > 0, r.Intn(4) == 0
		for b, next := range r.shape() {
			g.Blocks = append(g.Blocks, api.Block{Ops: r.list(g, locks), Next: next})
			if len(next) == 2 {
				g.Blocks[b].Cond = r.Intn(g.Vars)
			}
			g.Heads = append(g.Heads, api.Head{Block: b, Max: r.Intn(20)})
		}
		for range r.Intn(4) {
			g.Points = append(g.Points, r.Perm(len(g.Blocks))[:r.Intn(min(len(g.Blocks), 5)+1)])
		}
		loops, e := graph.Loops(g)
		if e != api.OK || len(loops) == 0 {
			continue
		}
		// Most graphs have the heads of their loops alone.
		if headers {
			g.Heads = slices.DeleteFunc(g.Heads, func(h api.Head) bool {
				return !slices.ContainsFunc(loops, func(l api.Loop) bool { return l.Header == h.Block })
			})
		}
		return g, loops
	}
}

// words are the contents of some arrays.
func (r *random) words(arrays []api.Array) [][]int {
	var out [][]int
	for _, a := range arrays {
		list := make([]int, a.Size)
		for i := range list {
			list[i] = r.from(-9, 9)
		}
		out = append(out, list)
	}
	return out
}

// slow unrolls a loop sentence by sentence of the chapter. It reports whether there is room.
func slow(g api.Graph, l api.Loop) (api.Graph, [][]int, bool) {
	replace := func(list []int, from, to int) []int {
		out := slices.Clone(list)
		if i := slices.Index(list, from); i >= 0 {
			out[i] = to
		}
		return out
	}
	x := g
	x.Blocks, x.Points, x.Heads = slices.Clone(g.Blocks), nil, nil
	copies := map[int]int{}
	for _, n := range l.Nodes {
		copies[n] = len(x.Blocks)
		x.Blocks = append(x.Blocks, g.Blocks[n])
	}
	for _, n := range l.Nodes {
		x.Blocks[n].Next = replace(g.Blocks[n].Next, l.Header, copies[l.Header])
		c := &x.Blocks[copies[n]]
		// Copies have greater numbers than all that is replaced.
		for _, m := range l.Nodes {
			if m != l.Header {
				c.Next = replace(c.Next, m, copies[m])
			}
		}
	}
	m, operations := [][]int{}, 0
	for b := range g.Blocks {
		m = append(m, to(b))
		if c, ok := copies[b]; ok {
			m[b] = append(m[b], c)
		}
	}
	for _, b := range x.Blocks {
		operations += len(b.Ops)
	}
	for _, list := range g.Points {
		list = slices.Clone(list)
		for _, b := range slices.Clone(list) {
			if c, ok := copies[b]; ok {
				list = append(list, c)
			}
		}
		x.Points = append(x.Points, list)
	}
	for b := range x.Blocks {
		for _, h := range g.Heads {
			switch c, ok := copies[h.Block]; {
			case b == l.Header && b == h.Block:
				x.Heads = append(x.Heads, api.Head{Block: b, Max: h.Max >> 1})
			case b == h.Block || ok && b == c && h.Block != l.Header:
				x.Heads = append(x.Heads, api.Head{Block: b, Max: h.Max})
			}
		}
	}
	return x, m, len(x.Blocks) <= 64 && operations <= 600
}

// against compares with what this leads to. It reports whether there was room.
func against(t *testing.T, g api.Graph, l api.Loop) (api.Graph, [][]int, bool) {
	t.Helper()
	want, m, room := slow(g, l)
	if !room {
		if x, m, e := Unroll(g, l.Header); e != api.ErrLimit || text(x) != text(api.Graph{}) || len(m) != 0 {
			t.Fatalf("%+v, header %d: error %d", g, l.Header, e)
		}
		return api.Graph{}, nil, false
	}
	x, to := unrolled(t, "a random one", g, l.Header)
	if text(x) != text(want) || text(to) != text(m) {
		t.Fatalf("%+v, header %d\nis  %+v, %v\nnot %+v, %v", g, l.Header, x, to, want, m)
	}
	return x, to, true
}

// show writes a loop with the header of the one around it.
func show(l api.Loop, around string) string {
	slices.Sort(l.Nodes)
	return fmt.Sprintf("%d>%d*%d in %s: %v", l.Before, l.Header, l.Max, around, l.Nodes)
}

// around is the header of the loop around one, as a text.
func around(loops []api.Loop, l api.Loop) string {
	if l.Around < 0 {
		return "none"
	}
	return fmt.Sprint(loops[l.Around].Header)
}

// wanted are the loops of a graph behind Unroll: that with the header, and those around it, have the copies, too; those in it are there twice; all others stay. It reports whether there are such: a loop behind the unrolled one that is entered from it directly is now entered from two blocks.
func wanted(loops []api.Loop, header int, m [][]int) (string, bool) {
	copied := func(b int) bool { return len(m[b]) > 1 }
	var out []string
	for _, l := range loops {
		where := around(loops, l)
		switch {
		case slices.Contains(l.Nodes, header):
			if l.Header == header {
				l.Max /= 2
			}
			var all []int
			for _, b := range l.Nodes {
				all = append(all, m[b]...)
			}
			l.Nodes = all
			out = append(out, show(l, where))
		case copied(l.Header):
			out = append(out, show(l, where))
			var all []int
			for _, b := range l.Nodes {
				all = append(all, m[b][1])
			}
			if h := loops[l.Around].Header; h != header {
				where = fmt.Sprint(m[h][1])
			}
			l.Header, l.Before, l.Nodes = m[l.Header][1], m[l.Before][1], all
			out = append(out, show(l, where))
		case copied(l.Before):
			return "", false
		default:
			out = append(out, show(l, where))
		}
	}
	slices.Sort(out)
	return strings.Join(out, "; "), true
}

// looks compares the loops of what was unrolled with these, and returns them.
func looks(t *testing.T, name string, loops []api.Loop, header int, x api.Graph, m [][]int) []api.Loop {
	t.Helper()
	want, right := wanted(loops, header, m)
	list, e := graph.Loops(x)
	if right != (e == api.OK) {
		t.Fatalf("%s: loops: error %d, not %s", name, e, want)
	}
	var out []string
	for _, l := range list {
		out = append(out, show(l, around(list, l)))
	}
	slices.Sort(out)
	if got := strings.Join(out, "; "); got != want {
		t.Fatalf("%s, header %d, by %v: the loops %s\nnot %s", name, header, m, got, want)
	}
	return list
}

// same compares two runs, before and behind Unroll: the counts of blocks add up, steps and all else are the same, and so is the error if there is one.
func same(t *testing.T, g, x api.Graph, m [][]int, in []int, shared [][]int, most int) api.Errno {
	t.Helper()
	fail := func(is, want any) {
		t.Helper()
		t.Fatalf("%+v\nis %+v\nfor %v and %v: %+v\nnot %+v", g, x, in, shared, is, want)
	}
	want, e := trace.Run(g, in, shared, most)
	o, f := trace.Run(x, in, shared, most)
	if f != e {
		fail(f, e)
	}
	if e != api.OK {
		return e
	}
	points, _ := trace.Points(g, want.Counts)
	if now, e := trace.Points(x, o.Counts); e != api.OK || !slices.Equal(now, points) {
		fail(now, points)
	}
	counts := make([]int, len(g.Blocks))
	for b, list := range m {
		for _, n := range list {
			counts[b] += o.Counts[n]
		}
	}
	o.Counts = counts
	if text(o) != text(want) {
		fail(o, want)
	}
	return api.OK
}

// P17.1 and its consequences for many graphs

// TestRandomGraphs has graphs that compute what they did, with counts that add up, and the loops that they should have.
func TestRandomGraphs(t *testing.T) {
	r := &random{Rand: rand.New(rand.NewSource(17))}
	tried, full, deep, alone, found := 0, 0, 0, 0, map[api.Errno]int{}
	for range 3000 {
		g, loops := r.graph()
		for _, l := range loops {
			x, m, room := against(t, g, l)
			if !room {
				full++
				continue
			}
			tried++
			if l.Around >= 0 {
				deep++
			}
			if looks(t, "a random one", loops, l.Header, x, m) == nil {
				alone++
			}
			for range 2 {
				var in []int
				for _, i := range g.Inputs {
					in = append(in, r.from(i.Lo, i.Hi))
				}
				shared := r.words(g.Arrays[len(g.Arrays)-g.Shared:])
				found[same(t, g, x, m, in, shared, pick(r, 300, 300, r.Intn(60)))]++
			}
		}
	}
	if tried < 6000 || full < 100 || deep < 2000 || alone < 50 || found[api.OK] < 3000 || found[api.ErrSteps] < 3000 || found[api.ErrLock] < 1000 {
		t.Errorf("%d loops, %d of them in others, %d without room, %d graphs without loops then, runs by errors: %v", tried, deep, full, alone, found)
	}
}

// TestRoundsOfWays goes the same ways through graphs before and behind Unroll: each block is itself or its copy, and for each entry of the loop the way back to its header is taken half as often.
func TestRoundsOfWays(t *testing.T) {
	r := &random{Rand: rand.New(rand.NewSource(71))}
	entries, rounds := 0, 0
	for range 5000 {
		g, loops := r.graph()
		l := pick(r, loops...)
		x, m, room := against(t, g, l)
		if !room {
			continue
		}
		within := func(b int) bool { return len(m[b]) > 1 }
		a, b, long, short := 0, 0, 0, 0
		for range 100 {
			if len(g.Blocks[a].Next) == 0 {
				break
			}
			way := r.Intn(len(g.Blocks[a].Next))
			before := a
			a, b = g.Blocks[a].Next[way], x.Blocks[b].Next[way]
			if !slices.Contains(m[a], b) || !slices.Equal(g.Blocks[a].Ops, x.Blocks[b].Ops) || g.Blocks[a].Cond != x.Blocks[b].Cond || len(g.Blocks[a].Next) != len(x.Blocks[b].Next) {
				t.Fatalf("%+v, header %d, %v: %d is not %d", g, l.Header, m, b, a)
			}
			switch {
			case a == l.Header && within(before):
				long, rounds = long+1, rounds+1
				if b == l.Header {
					short++
				}
			case a == l.Header:
				long, short, entries = 0, 0, entries+1
				if b != l.Header {
					t.Fatalf("%+v, header %d, %v: entered at %d", g, l.Header, m, b)
				}
			}
			if short != long/2 {
				t.Fatalf("%+v, header %d, %v: %d ways back have become %d", g, l.Header, m, long, short)
			}
		}
	}
	if entries < 3000 || rounds < 5000 {
		t.Errorf("%d entries, %d ways back", entries, rounds)
	}
}

// TestAnything has graphs of any numbers, and any headers: all calls end, and what Loops refuses is refused.
func TestAnything(t *testing.T) {
	r := &random{Rand: rand.New(rand.NewSource(1))}
	n := func() int { return pick(r, 0, 0, 1, 1, 2, 3, -1, 64, math.MinInt, math.MaxInt) }
	list := func() []int { return []int{n(), n(), n()}[:r.Intn(4)] }
	op := func() []api.Op { return ops(api.Op{Kind: r.Intn(9), Dst: n(), A: n(), B: n(), Imm: n()}) }
	found := map[api.Errno]int{}
	for range 12000 {
		g, _ := r.graph()
		b := r.Intn(len(g.Blocks))
		switch r.Intn(9) {
		case 0:
			g.Vars, g.Keep = n(), n()
		case 1:
			g.Shared, g.Arrays = n(), append(g.Arrays, api.Array{Size: n()})
		case 2:
			g.Inputs = append(g.Inputs, api.Input{Lo: n(), Hi: n()})
		case 3:
			g.Blocks = append(g.Blocks, api.Block{Ops: op(), Cond: n(), Next: list()})
		case 4:
			g.Points, g.Heads = append(g.Points, list()), append(g.Heads, api.Head{Block: n(), Max: n()})
		case 5:
			g.Blocks[b].Ops = append(g.Blocks[b].Ops, op()...)
		case 6:
			g.Blocks[b].Cond, g.Blocks[b].Next = n(), list()
		}
		loops, want := graph.Loops(g)
		header := pick(r, n(), r.Intn(len(g.Blocks)))
		i := slices.IndexFunc(loops, func(l api.Loop) bool { return l.Header == header })
		if want == api.OK && i < 0 {
			want = api.ErrBlock
		}
		found[want]++
		if want == api.OK {
			against(t, g, loops[i])
			continue
		}
		before := text(g)
		if x, l, e := Unroll(g, header); e != want || text(x) != text(api.Graph{}) || len(l) != 0 || text(g) != before {
			t.Fatalf("%s, header %d: error %d, not %d, %+v, %v", before, header, e, want, x, l)
		}
	}
	if found[api.OK] < 300 || found[api.ErrBlock] < 2000 || found[api.ErrForm] < 3000 || found[api.ErrLimit] < 100 {
		t.Errorf("%v", found)
	}
}

// The consequences, for tasks

// label is a new one.
func (r *random) label() string {
	r.labels++
	return fmt.Sprint(" label ", r.labels, " ")
}

// stmt is a statement, of so many levels.
func (r *random) stmt(depth int) string {
	expr := func() string {
		return pick(r, "x", "y", "i", "k", "3", "a[i]", "a[x]", "(x<y)", "(i+1)", "(k*x)", "(a[k]-i)", "(y&1)")
	}
	kind := r.Intn(6)
	if depth == 0 {
		kind = r.Intn(2)
	}
	switch {
	case kind == 0:
		return "a[" + expr() + "] = " + expr()
	case kind == 2 && r.labels < api.MaxLabels:
		return "if " + pick(r, expr(), "0", "1") + r.label() + r.body(depth-1) + " else " + r.body(depth-1)
	case kind > 3 && r.labels < api.MaxLabels:
		return fmt.Sprint("while ", pick(r, "(i<3)", "(k<x)", expr(), "(i!=x)"), " max ", r.Intn(9), r.label(), "{ i = (i+1) k = (k+2) ", r.body(depth - 1)[1:])
	case kind == 3 && !r.held:
		r.held = true
		defer func() { r.held = false }()
		return "lock r { buf[x] = (buf[i]+1) " + r.body(depth - 1)[1:]
	}
	return pick(r, "x", "y", "i", "k") + " = " + expr()
}

// body is some statements, or none.
func (r *random) body(depth int) string {
	var l []string
	for range r.Intn(4) {
		l = append(l, r.stmt(depth))
	}
	return "{ " + strings.Join(l, " ") + " }"
}

// task returns the text of a task, and its program, which is right.
func (r *random) task(t *testing.T) (string, api.Program) {
	for {
		r.labels = 0
		body := r.stmt(3) + " " + strings.Trim(r.body(3), "{}") + r.stmt(3)
		p, line, e := parse.Program("resource r\nshared buf 4 r\ntask t period 200 deadline 150 priority 3 jitter 5\ninput x 0 15\ninput y -3 3\nvar i\nvar k\narray a 4\nbody\n" + body + "\nend\n")
		if e != api.OK {
			t.Fatalf("%q: error %d in line %d", body, e, line)
		}
		if check.Program(p) == api.OK {
			return body, p
		}
	}
}

// lowered is the graph of a task, as it is, or folded, or without what is not needed, or with joined blocks.
func (r *random) lowered(p api.Program, proof api.Proof) (api.Graph, bool) {
	g, e := graph.Lower(p, 0, proof)
	if e == api.ErrLimit {
		return g, false
	}
	for _, pass := range []func(api.Graph) (api.Graph, [][]int, api.Errno){fold.Fold, dead.Dead, merge.Merge}[:r.Intn(4)] {
		g, _, _ = pass(g)
	}
	return g, true
}

// often reports whether the header of each loop is carried out as often as Max permits, at most.
func often(loops []api.Loop, counts []int) bool {
	return !slices.ContainsFunc(loops, func(l api.Loop) bool { return counts[l.Header] > (l.Max+1)*counts[l.Before] })
}

// job compares a run of a graph with loops with one of the source: both compute the same, with the same counts of points, what is proved of these holds, and no loop has more rounds than its Max permits.
func job(t *testing.T, name string, p api.Program, x api.Graph, loops []api.Loop, facts []api.Fact, in []int, shared [][]int) {
	t.Helper()
	want, _ := eval.Run(p, 0, in, shared)
	o, _ := trace.Run(x, in, shared, api.MaxSteps)
	points, e := trace.Points(x, o.Counts)
	if e != api.OK || !slices.Equal(points, want.Counts) || !often(loops, o.Counts) {
		t.Fatalf("%s, the inputs %v: error %d, %v, not %v, %+v", name, in, e, points, want.Counts, o)
	}
	for _, claim := range facts {
		if f, e := fact.Map(claim, x.Points); e != api.OK || !fact.Holds(f, o.Counts) {
			t.Fatalf("%s, the inputs %v: error %d, %+v, the fact %+v for the counts %v", name, in, e, claim, f, o.Counts)
		}
	}
	want.Counts, want.Steps = o.Counts, o.Steps
	if text(o) != text(want) {
		t.Fatalf("%s, the inputs %v: %+v\nnot %+v", name, in, o, want)
	}
}

// TestTasks runs random tasks, with what is proved of them and with nothing, whose loops are unrolled, one, and then another one, or the same again.
func TestTasks(t *testing.T) {
	r := &random{Rand: rand.New(rand.NewSource(81))}
	loops, again, facts := 0, 0, 0
	for range 400 {
		source, p := r.task(t)
		proved, e := infer.Prove(p, 0, []api.Range{{Hi: 15}, {Lo: -3, Hi: 3}})
		if e != api.OK {
			t.Fatalf("%s: error %d", source, e)
		}
		free := api.Proof{Most: slices.Repeat(to(api.MaxMax), 13), Natural: make([]bool, 13)}
		for _, proof := range []api.Proof{proved, free, proved} {
			g, right := r.lowered(p, proof)
			if !right {
				continue
			}
			list, e := graph.Loops(g)
			for times := 0; e == api.OK && len(list) > 0 && times < 3; times++ {
				l := pick(r, list...)
				x, m, room := against(t, g, l)
				if !room {
					break
				}
				list = looks(t, source, list, l.Header, x, m)
				if list == nil {
					t.Fatalf("%s: the header %d of %+v has left no loops", source, l.Header, g)
				}
				loops, again, facts = loops+1, again+min(times, 1), facts+len(proof.Facts)
				for range 2 {
					in, shared := to(r.from(0, 15), r.from(-3, 3)), r.words([]api.Array{{Size: 4}})
					job(t, source, p, x, list, proof.Facts, in, shared)
					if e := same(t, g, x, m, in, shared, api.MaxSteps); e != api.OK {
						t.Fatalf("%s: error %d", source, e)
					}
				}
				g = x
			}
		}
	}
	if loops < 1500 || again < 800 || facts < 10000 {
		t.Errorf("%d loops, %d of them behind others, %d facts", loops, again, facts)
	}
}

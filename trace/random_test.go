package trace

import (
	"fmt"
	"math"
	"math/rand"
	"slices"
	"strings"
	"testing"
	"timebound/api"
	"timebound/check"
	"timebound/eval"
	"timebound/graph"
	"timebound/infer"
	"timebound/parse"
	"timebound/print"
	"timebound/word"
)

// random is a maker of graphs, and of texts of tasks.
type random struct {
	*rand.Rand
	labels []int
	held   string // an array whose resource is held
}

func pick[T any](r *random, list ...T) T { return list[r.Intn(len(list))] }

func (r *random) from(lo, hi int) int { return lo + r.Intn(hi-lo+1) }

func (r *random) number() int {
	return pick(r, 0, 1, 2, 3, -1, -2, 7, 31, 32, math.MaxInt32, math.MinInt32, r.from(-9, 99), word.Wrap(r.Int()))
}

// op is an operation with all that it names.
func (r *random) op(g api.Graph) api.Op {
	v := func() int { return r.Intn(g.Vars) }
	switch kind := r.Intn(5); {
	case kind == 0:
		return constant(v(), r.number())
	case kind == 1:
		return move(v(), v())
	case kind == 2 && len(g.Arrays) > 0:
		return load(v(), r.Intn(len(g.Arrays)), v())
	case kind == 3 && len(g.Arrays) > 0:
		return store(r.Intn(len(g.Arrays)), v(), v())
	}
	return bin(v(), v(), r.from(api.Add, api.Ne), v())
}

// graph is a valid one.
func (r *random) graph() api.Graph {
	g := api.Graph{Vars: r.from(1, 6), Blocks: make([]api.Block, r.from(1, 7))}
	g.Keep = r.from(0, g.Vars)
	for range min(r.Intn(4), g.Keep) {
		lo := r.from(-3, 3)
		g.Inputs = append(g.Inputs, api.Input{Lo: lo, Hi: lo + r.Intn(4)})
	}
	for range r.Intn(4) {
		g.Arrays = append(g.Arrays, api.Array{Size: pick(r, 1, 2, 4, 8)})
	}
	g.Shared = r.Intn(len(g.Arrays) + 1)
	last := len(g.Blocks) - 1
	end := r.Intn(last + 1)
	for b := range g.Blocks {
		var list []api.Op
		if r.Intn(9) == 0 {
			list = append(list, lock(r.Intn(2)))
		}
		for range r.Intn(4) {
			list = append(list, r.op(g))
		}
		if r.Intn(9) == 0 {
			list = append(list, unlock(r.Intn(2)))
		}
		block := api.Block{Ops: list}
		if b != end && last > 0 {
			ways := r.Perm(last)[:min(last, r.from(1, 2))]
			for _, way := range ways {
				block.Next = append(block.Next, way+1)
			}
			if len(ways) == 2 {
				block.Cond = r.Intn(g.Vars)
			}
		}
		g.Blocks[b] = block
	}
	for range r.Intn(4) {
		g.Points = append(g.Points, r.Perm(last + 1)[:r.Intn(last+2)])
	}
	return g
}

// words are the contents of some arrays.
func (r *random) words(arrays []api.Array) [][]int {
	var out [][]int
	for _, a := range arrays {
		list := make([]int, a.Size)
		for i := range list {
			list[i] = r.number()
		}
		out = append(out, list)
	}
	return out
}

// memory has all that a run can change, by names: v2 is a variable, a0.3 an element, r1 a resource.
type memory map[string]int

// element is the name of the one with an index that can be any number.
func (m memory) element(g api.Graph, array, index int) string {
	size := g.Arrays[array].Size
	for index < 0 {
		index += 1 << 32
	}
	return fmt.Sprintf("a%d.%d", array, index%size)
}

// do carries out an operation, unless it is one on a resource that is held, or is not.
func (m memory) do(g api.Graph, o api.Op) bool {
	v := func(n int) string { return fmt.Sprint("v", n) }
	switch o.Kind {
	case api.OpConst:
		m[v(o.Dst)] = o.Imm
	case api.OpCopy:
		m[v(o.Dst)] = m[v(o.A)]
	case api.OpBin:
		n, e := word.Do(o.Imm, m[v(o.A)], m[v(o.B)])
		m[v(o.Dst)] = n + int(e)
	case api.OpLoad:
		m[v(o.Dst)] = m[m.element(g, o.Imm, m[v(o.A)])]
	case api.OpStore:
		m[m.element(g, o.Imm, m[v(o.A)])] = m[v(o.B)]
	default:
		r := fmt.Sprint("r", o.Imm)
		m[r] += []int{api.OpLock: 1, api.OpUnlock: -1}[o.Kind]
		return m[r] == 0 || m[r] == 1
	}
	return true
}

// list is the contents of arrays from one to before another.
func (m memory) list(g api.Graph, from, to int) [][]int {
	var out [][]int
	for a := from; a < to; a++ {
		var l []int
		for i := range g.Arrays[a].Size {
			l = append(l, m[fmt.Sprintf("a%d.%d", a, i)])
		}
		out = append(out, l)
	}
	return out
}

// slow carries out a graph by names. It writes down all that it begins, and looks at how much that is before.
func slow(g api.Graph, inputs []int, shared [][]int, most int) (api.Outcome, api.Errno) {
	m := memory{}
	for i, n := range inputs {
		m[fmt.Sprint("v", i)] = n
	}
	own := len(g.Arrays) - g.Shared
	for a, l := range shared {
		for i, n := range l {
			m[fmt.Sprintf("a%d.%d", own+a, i)] = n
		}
	}
	var begun []string
	for b := 0; b >= 0; {
		begun = append(begun, fmt.Sprint("block ", b))
		for _, o := range g.Blocks[b].Ops {
			if len(begun) > most {
				return api.Outcome{}, api.ErrSteps
			}
			begun = append(begun, "operation")
			if len(begun) <= most && !m.do(g, o) {
				return api.Outcome{}, api.ErrLock
			}
		}
		if len(begun) > most {
			return api.Outcome{}, api.ErrSteps
		}
		next := append(slices.Clone(g.Blocks[b].Next), -1, -1)
		way := 0
		if len(g.Blocks[b].Next) == 2 && m[fmt.Sprint("v", g.Blocks[b].Cond)] == 0 {
			way = 1
		}
		b = next[way]
	}
	o := api.Outcome{Arrays: m.list(g, 0, own), Shared: m.list(g, own, len(g.Arrays))}
	for v := range g.Keep {
		o.Vars = append(o.Vars, m[fmt.Sprint("v", v)])
	}
	count := map[string]int{}
	for _, s := range begun {
		count[s]++
	}
	for b := range g.Blocks {
		o.Counts = append(o.Counts, count[fmt.Sprint("block ", b)])
	}
	o.Steps = count["operation"]
	return o, api.OK
}

// P13.1 and P13.2 for random graphs

func TestRunsAgainstNames(t *testing.T) {
	r := &random{Rand: rand.New(rand.NewSource(13))}
	found := map[api.Errno]int{}
	steps := 0
	for range 30000 {
		g := r.graph()
		if e := graph.Check(g); e != api.OK {
			t.Fatalf("%+v: error %d", g, e)
		}
		var in []int
		for _, i := range g.Inputs {
			in = append(in, r.from(i.Lo, i.Hi))
		}
		shared, most := r.words(g.Arrays[len(g.Arrays)-g.Shared:]), r.Intn(120)
		before := text([]any{g, in, shared})
		want, f := slow(g, in, shared, most)
		o, e := Run(g, in, shared, most)
		if e != f || text(o) != text(want) || text([]any{g, in, shared}) != before {
			t.Fatalf("%s, most %d: error %d, %+v\nnot %d, %+v", before, most, e, o, f, want)
		}
		found[e]++
		steps += o.Steps
		if e != api.OK {
			continue
		}
		sums, e := Points(g, o.Counts)
		for point, list := range g.Points {
			for _, b := range list {
				sums[point] -= o.Counts[b]
			}
		}
		if e != api.OK || len(sums) != len(g.Points) || slices.ContainsFunc(sums, func(n int) bool { return n != 0 }) {
			t.Fatalf("%s: points, error %d, %v", before, e, sums)
		}
	}
	if found[api.OK] < 9000 || found[api.ErrLock] < 1000 || found[api.ErrSteps] < 3000 || steps < 50000 {
		t.Errorf("%v, %d steps", found, steps)
	}
}

// TestAnything has graphs and runs of any numbers: all calls end, and what Check refuses has no run.
func TestAnything(t *testing.T) {
	r := &random{Rand: rand.New(rand.NewSource(1))}
	n := func() int { return pick(r, 0, 0, 1, 1, 2, 3, -1, 64, math.MinInt, math.MaxInt) }
	list := func() []int { return []int{n(), n(), n()}[:r.Intn(4)] }
	found := map[api.Errno]int{}
	for range 50000 {
		g := api.Graph{Blocks: []api.Block{{}}}
		if r.Intn(2) == 0 {
			g = r.graph()
		}
		switch r.Intn(8) {
		case 0:
			g.Vars, g.Keep = n(), n()
		case 1:
			g.Shared, g.Arrays = n(), append(g.Arrays, api.Array{Size: n()})
		case 2:
			g.Inputs = append(g.Inputs, api.Input{Lo: n(), Hi: n()})
		case 3:
			g.Blocks = append(g.Blocks, api.Block{Ops: ops(api.Op{Kind: r.Intn(9), Dst: n(), A: n(), B: n(), Imm: n()}), Cond: n(), Next: list()})
		case 4:
			g.Points, g.Heads = append(g.Points, list()), append(g.Heads, api.Head{Block: n(), Max: n()})
		}
		in, shared, most := list(), [][]int{list(), list(), list()}[:r.Intn(4)], n()
		before := text([]any{g, in, shared})
		o, e := Run(g, in, shared, most)
		l, f := Points(g, in)
		c := graph.Check(g)
		if c != api.OK && (e != c || f != c) || e != api.OK && text(o) != text(api.Outcome{}) || f != api.OK && len(l) != 0 || text([]any{g, in, shared}) != before {
			t.Fatalf("%s, most %d: errors %d and %d, %+v, %v", before, most, e, f, o, l)
		}
		found[e]++
	}
	for _, e := range []api.Errno{api.OK, api.ErrLimit, api.ErrForm, api.ErrInput, api.ErrRange, api.ErrSteps} {
		if found[e] < 50 {
			t.Errorf("error %d was found %d times", e, found[e])
		}
	}
}

// The consequences

func (r *random) name() string { return pick(r, "x", "y", "i", "k") }

func (r *random) array() string {
	if r.held != "" && r.Intn(2) == 0 {
		return r.held
	}
	return pick(r, "a", "b")
}

func (r *random) expr(depth int) string {
	switch kind := r.Intn(5); {
	case kind == 0 || depth == 1 && kind%2 == 0:
		return fmt.Sprint(pick(r, 0, 1, 2, 3, -1, 31, math.MaxInt32, r.Intn(100)))
	case kind == 1 || depth == 1:
		return r.name()
	case kind == 2:
		return r.array() + "[" + r.expr(depth-1) + "]"
	}
	sign := pick(r, "+", "-", "*", "/", "%", "&", "|", "^", "<<", ">>", "<", "<=", "==", "!=")
	return "(" + r.expr(depth-1) + sign + r.expr(depth-1) + ")"
}

func (r *random) block(depth int) string {
	var l []string
	for range r.Intn(4) {
		l = append(l, r.stmt(depth))
	}
	return "{ " + strings.Join(l, " ") + " }"
}

// loop is one that often ends by itself, in time or just not.
func (r *random) loop(depth, label int) string {
	head := fmt.Sprintf("while %s max %d label %d ", pick(r, "i<3", "i<x", "i!=2", "y<=i", r.expr(3)), r.Intn(6), label)
	return head + strings.TrimSuffix(r.block(depth), "}") + pick(r, "i = i + 1 }", "i = i + 1 }", "}")
}

func (r *random) stmt(depth int) string {
	kind := r.Intn(6)
	if depth > 1 && kind < 2 && len(r.labels) > 0 {
		label := r.labels[0]
		r.labels = r.labels[1:]
		if kind == 0 {
			return r.loop(depth-1, label)
		}
		return fmt.Sprintf("if %s label %d %s else %s", r.expr(3), label, r.block(depth-1), r.block(depth-1))
	}
	switch {
	case kind == 2 && depth > 1 && r.held == "":
		resource := pick(r, "r", "q")
		r.held = map[string]string{"r": "buf", "q": "que"}[resource]
		defer func() { r.held = "" }()
		return "lock " + resource + " " + r.block(depth-1)
	case kind == 3:
		return r.array() + "[" + r.expr(3) + "] = " + r.expr(3)
	}
	return r.name() + " = " + r.expr(4)
}

// whole returns a program that is right.
func (r *random) whole(t *testing.T) api.Program {
	const before = "resource r\nresource q\nshared buf 4 r\nshared que 2 q\n" +
		"task t period 200 deadline 150 priority 3 jitter 5\ninput x 0 15\ninput y -3 3\nvar i\nvar k\narray a 4\narray b 8\nbody\n"
	for {
		r.labels = r.Perm(api.MaxLabels)
		for i := range r.labels {
			r.labels[i]++
		}
		var l []string
		for range 1 + r.Intn(5) {
			l = append(l, r.stmt(1+r.Intn(5)))
		}
		p, line, e := parse.Program(before + strings.Join(l, " ") + "\nend\n")
		if e != api.OK {
			t.Fatalf("%q: error %d in line %d", l, e, line)
		}
		if check.Program(p) == api.OK {
			return p
		}
	}
}

// free is a proof that knows nothing: each loop has a counter.
func free() api.Proof {
	return api.Proof{Most: slices.Repeat(to(api.MaxMax), 13), Natural: make([]bool, 13)}
}

// TestGraphsAgainstTheSource runs random tasks, with what is proved of them and with nothing, and their source.
func TestGraphsAgainstTheSource(t *testing.T) {
	r := &random{Rand: rand.New(rand.NewSource(31))}
	runs, most := 0, 0
	for range 1000 {
		p := r.whole(t)
		source, _ := print.Program(p)
		proved, e := infer.Prove(p, 0, []api.Range{{Hi: 15}, {Lo: -3, Hi: 3}})
		if e != api.OK {
			t.Fatalf("%s: error %d", source, e)
		}
		for _, proof := range []api.Proof{proved, free()} {
			g, e := graph.Lower(p, 0, proof)
			if e == api.ErrLimit {
				continue
			}
			for range 3 {
				in, shared := to(r.from(0, 15), r.from(-3, 3)), r.words([]api.Array{{Size: 4}, {Size: 2}})
				want, _ := eval.Run(p, 0, in, shared)
				o, e := Run(g, in, shared, api.MaxSteps)
				points, f := Points(g, o.Counts)
				steps, blocks := 0, 0
				for b, n := range o.Counts {
					steps, blocks = steps+n*len(g.Blocks[b].Ops), blocks+n
				}
				if e != api.OK || f != api.OK || steps != o.Steps || !slices.Equal(points, want.Counts) {
					t.Fatalf("%s: the inputs %v, errors %d and %d, %+v\nnot %+v", source, in, e, f, o, want)
				}
				want.Counts, want.Steps = o.Counts, steps
				if text(o) != text(want) {
					t.Fatalf("%s: the inputs %v, %+v\nnot %+v", source, in, o, want)
				}
				exact, e := Run(g, in, shared, steps+blocks)
				if _, f := Run(g, in, shared, steps+blocks-1); e != api.OK || f != api.ErrSteps || text(exact) != text(o) {
					t.Fatalf("%s: the inputs %v, most %d, errors %d and %d", source, in, steps+blocks, e, f)
				}
				runs, most = runs+1, max(most, steps)
			}
		}
	}
	if runs < 5000 || most < 500 {
		t.Errorf("%d runs, at most %d steps", runs, most)
	}
}

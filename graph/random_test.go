package graph

import (
	"fmt"
	"math/rand"
	"slices"
	"strings"
	"testing"
	"timebound/api"
	"timebound/check"
	"timebound/eval"
	"timebound/infer"
	"timebound/print"
	"timebound/word"
)

// random is a maker of texts of tasks for the declarations of these tests.
type random struct {
	*rand.Rand
	labels []int
	whiles int    // how many it has made
	held   string // an array whose resource is held
}

func pick[T any](r *random, list ...T) T { return list[r.Intn(len(list))] }

func (r *random) name() string { return pick(r, "x", "y", "i", "k") }

func (r *random) array() string {
	if r.held != "" && r.Intn(2) == 0 {
		return r.held
	}
	return pick(r, "a", "b")
}

func (r *random) expr(depth int) string {
	switch kind := r.Intn(5); {
	case kind == 0 || depth == 1 && kind%2 == 0:
		return fmt.Sprint(pick(r, 0, 1, 2, 3, -1, 31, 1<<31-1, r.Intn(100)))
	case kind == 1 || depth == 1:
		return r.name()
	case kind == 2:
		return r.array() + "[" + r.expr(depth-1) + "]"
	}
	sign := pick(r, "+", "-", "*", "/", "%", "&", "|", "^", "<<", ">>", "<", "<=", "==", "!=")
	return "(" + r.expr(depth-1) + sign + r.expr(depth-1) + ")"
}

func (r *random) block(depth int) string {
	var l []string
	for range r.Intn(4) {
		l = append(l, r.stmt(depth))
	}
	return "{ " + strings.Join(l, " ") + " }"
}

// loop is one that often ends by itself, in time or just not.
func (r *random) loop(depth, label int) string {
	r.whiles++
	head := fmt.Sprintf("while %s max %d label %d ", pick(r, "i<3", "i<x", "i!=2", "y<=i", r.expr(3)), r.Intn(6), label)
	return head + strings.TrimSuffix(r.block(depth), "}") + pick(r, "i = i + 1 }", "i = i + 1 }", "}")
}

func (r *random) stmt(depth int) string {
	kind := r.Intn(6)
	if depth > 1 && kind < 2 && len(r.labels) > 0 {
		label := r.labels[0]
		r.labels = r.labels[1:]
		if kind == 0 {
			return r.loop(depth-1, label)
		}
		return fmt.Sprintf("if %s label %d %s else %s", r.expr(3), label, r.block(depth-1), r.block(depth-1))
	}
	switch {
	case kind == 2 && depth > 1 && r.held == "":
		resource := pick(r, "r", "q")
		r.held = map[string]string{"r": "buf", "q": "que"}[resource]
		defer func() { r.held = "" }()
		return "lock " + resource + " " + r.block(depth-1)
	case kind == 3:
		return r.array() + "[" + r.expr(3) + "] = " + r.expr(3)
	}
	return r.name() + " = " + r.expr(4)
}

// whole returns a program that is right.
func (r *random) whole(t *testing.T) api.Program {
	for {
		r.labels, r.whiles = r.Perm(api.MaxLabels), 0
		for i := range r.labels {
			r.labels[i]++
		}
		var l []string
		for range 1 + r.Intn(5) {
			l = append(l, r.stmt(1+r.Intn(5)))
		}
		if p := program(t, strings.Join(l, " ")); check.Program(p) == api.OK {
			return p
		}
	}
}

// part returns a range within another one.
func (r *random) part(lo, hi int) api.Range {
	whole := api.Range{Lo: lo, Hi: hi}
	if r.Intn(3) == 0 {
		return whole
	}
	a, b := r.from(whole), r.from(whole)
	return api.Range{Lo: min(a, b), Hi: max(a, b)}
}

func (r *random) from(in api.Range) int { return in.Lo + r.Intn(in.Hi-in.Lo+1) }

// walker carries out a graph.
type walker struct {
	g      api.Graph
	vars   []int
	arrays [][]int
	counts []int
	rounds []int // of each loop: how often a back edge was taken since it was entered
	held   map[int]bool
	wrong  string
}

func (w *walker) op(o api.Op) {
	// Sizes are powers of two: the last bits of two's complement count from 0 on.
	element := func() *int {
		list := w.arrays[o.Imm]
		return &list[w.vars[o.A]&(len(list)-1)]
	}
	switch o.Kind {
	case api.OpConst:
		w.vars[o.Dst] = o.Imm
	case api.OpCopy:
		w.vars[o.Dst] = w.vars[o.A]
	case api.OpBin:
		w.vars[o.Dst], _ = word.Do(o.Imm, w.vars[o.A], w.vars[o.B])
	case api.OpLoad:
		w.vars[o.Dst] = *element()
	case api.OpStore:
		*element() = w.vars[o.B]
	case api.OpLock, api.OpUnlock:
		if w.held[o.Imm] == (o.Kind == api.OpLock) {
			w.wrong = show(o)
		}
		w.held[o.Imm] = o.Kind == api.OpLock
	}
}

// walk carries out all blocks, and looks at how often back edges are taken.
func (w *walker) walk(loops []api.Loop) {
	w.rounds = make([]int, len(loops))
	w.counts = make([]int, len(w.g.Blocks))
	for b := 0; ; {
		w.counts[b]++
		block := w.g.Blocks[b]
		for _, o := range block.Ops {
			w.op(o)
		}
		if len(block.Next) == 0 {
			return
		}
		next := block.Next[0]
		if len(block.Next) == 2 && w.vars[block.Cond] == 0 {
			next = block.Next[1]
		}
		for i, l := range loops {
			switch {
			case next != l.Header:
			case slices.Contains(l.Nodes, b):
				w.rounds[i]++
			default:
				w.rounds[i] = 0
			}
			if w.rounds[i] > l.Max {
				w.wrong = report(loops[i : i+1])
			}
		}
		b = next
	}
}

// carried carries out a graph. It returns its outcome, with the counts of points that the counts of blocks add up to.
func carried(t *testing.T, g api.Graph, loops []api.Loop, inputs []int, lists [][]int) api.Outcome {
	t.Helper()
	w := &walker{g: g, vars: make([]int, g.Vars), held: map[int]bool{}}
	copy(w.vars, inputs)
	for i, a := range g.Arrays {
		if own := len(g.Arrays) - g.Shared; i < own {
			w.arrays = append(w.arrays, make([]int, a.Size))
		} else {
			w.arrays = append(w.arrays, slices.Clone(lists[i-own]))
		}
	}
	w.walk(loops)
	for _, held := range w.held {
		if held {
			w.wrong = "held"
		}
	}
	if w.wrong != "" {
		t.Fatalf("%s: the inputs %v: %s", blocks(g), inputs, w.wrong)
	}
	own := len(g.Arrays) - g.Shared
	o := api.Outcome{Vars: w.vars[:g.Keep], Arrays: w.arrays[:own], Shared: w.arrays[own:]}
	for _, list := range g.Points {
		n := 0
		for _, b := range list {
			n += w.counts[b]
		}
		o.Counts = append(o.Counts, n)
	}
	return o
}

// free is a proof that knows nothing: each loop has a counter.
func free() api.Proof {
	f := proof()
	f.Most = slices.Repeat(to(api.MaxMax), 13)
	return f
}

// TestGraphsAgainstRuns lowers random tasks, with what is proved of them and with nothing. The consequences of the chapter hold, and all jobs compute the same.
func TestGraphsAgainstRuns(t *testing.T) {
	r := &random{Rand: rand.New(rand.NewSource(12))}
	var passed [39]int
	loops, counters, greatest := 0, 0, 0
	for range 1500 {
		p := r.whole(t)
		source, _ := print.Program(p)
		ranges := []api.Range{r.part(0, 15), r.part(-3, 3)}
		proved, e := infer.Prove(p, 0, ranges)
		if e != api.OK {
			t.Fatalf("%s: error %d", source, e)
		}
		var graphs []api.Graph
		for _, f := range []api.Proof{proved, free()} {
			g, e := Lower(p, 0, f)
			if e == api.ErrLimit {
				continue
			}
			l, f := Loops(g)
			if e != api.OK || Check(g) != api.OK || f != api.OK || len(l) != r.whiles || slices.Contains(Reached(g), false) {
				t.Fatalf("%s: errors %d, %d, %d, loops %s", source, e, Check(g), f, report(l))
			}
			loops, counters, greatest = loops+len(l), counters+g.Vars-g.Keep-11, max(greatest, len(g.Blocks))
			graphs = append(graphs, g)
		}
		for range 5 {
			inputs := []int{r.from(ranges[0]), r.from(ranges[1])}
			lists := [][]int{{word.Wrap(r.Int()), r.Intn(9), r.Intn(9), -r.Intn(9)}, {r.Intn(9), r.Intn(9)}}
			want, _ := eval.Run(p, 0, inputs, lists)
			want.Steps = 0
			for _, g := range graphs {
				l, _ := Loops(g)
				if o := carried(t, g, l, inputs, lists); text(o) != text(want) {
					t.Fatalf("%s: the inputs %v\n%s\n     %+v\nnot: %+v", source, inputs, blocks(g), o, want)
				}
			}
			for i, n := range want.Counts {
				passed[i] += n
			}
		}
	}
	for i, n := range passed {
		if i != 1 && i != 2 && n < 200 {
			t.Errorf("point %d was passed %d times only", i, n)
		}
	}
	if loops < 1000 || counters < loops/2 || counters > loops*9/10 || greatest < 40 {
		t.Errorf("%d loops, %d counters, %d blocks", loops, counters, greatest)
	}
}

package graph

import (
	"slices"
	"timebound/api"
	"timebound/check"
	"timebound/eval"
)

// levels is how many variables there are for intermediate results.
const levels = api.MaxDepth + 3

// The points of a label, by what they are behind 3 times the label.
const (
	reached = iota
	begun   // Then begins
	left    // Else begins, or the loop is left
)

// Lower returns the graph of a task.
func Lower(p api.Program, task int, proof api.Proof) (api.Graph, api.Errno) {
	if e := check.Program(p); e != api.OK {
		return api.Graph{}, e
	}
	if task < 0 || task >= len(p.Tasks) {
		return api.Graph{}, api.ErrTask
	}
	if labels := api.MaxLabels + 1; len(proof.Most) != labels || len(proof.Natural) != labels {
		return api.Graph{}, api.ErrForm
	}
	t := p.Tasks[task]
	l := newLowering(p, t, proof)
	l.block(t.Body)
	if many(l.graph.Blocks) {
		return api.Graph{}, api.ErrLimit
	}
	return l.graph, api.OK
}

// lowering is a task on its way to a graph. Names are unique in it: check refuses a task with two equal ones, those of shared arrays among them.
type lowering struct {
	graph     api.Graph
	numbers   map[string]int // of variables, and of arrays
	counters  map[int]int    // the variables that count rounds, by the labels of their loops
	results   int            // the variable for the intermediate results of the level 0
	resources []string
	most      []int
	current   int                     // the block to which operations are added
	fresh     func(points ...int) int // makes a block, for some points
}

// newLowering returns a task with its data and its first block.
func newLowering(p api.Program, t api.Task, proof api.Proof) *lowering {
	l := &lowering{numbers: map[string]int{}, counters: map[int]int{}, resources: p.Resources, most: proof.Most}
	l.declare(p, t)
	l.results = l.graph.Keep
	for _, label := range slices.Sorted(slices.Values(counted(t.Body, proof.Natural))) {
		l.counters[label] = l.results
		l.results++
	}
	l.graph.Vars = l.results + levels
	l.graph.Points = make([][]int, eval.Points(t))
	l.fresh = func(points ...int) int {
		b := len(l.graph.Blocks)
		l.graph.Blocks = append(l.graph.Blocks, api.Block{})
		for _, point := range points {
			l.mark(point, b)
		}
		return b
	}
	l.current = l.fresh(0)
	return l
}

// declare gives a graph the inputs and arrays of a task, and all names their numbers.
func (l *lowering) declare(p api.Program, t api.Task) {
	l.graph.Inputs = slices.Clone(t.Inputs)
	l.graph.Keep = len(t.Inputs) + len(t.Vars)
	for i, in := range t.Inputs {
		l.numbers[in.Name] = i
	}
	for i, name := range t.Vars {
		l.numbers[name] = len(t.Inputs) + i
	}
	l.graph.Arrays = slices.Clone(t.Arrays)
	l.graph.Shared = len(p.Shared)
	for _, s := range p.Shared {
		l.graph.Arrays = append(l.graph.Arrays, s.Array)
	}
	for i, a := range l.graph.Arrays {
		l.numbers[a.Name] = i
	}
}

// counted returns the labels of all whiles that need a counter.
func counted(list []api.Stmt, natural []bool) []int {
	var labels []int
	for _, s := range list {
		if s.Kind == api.StmtWhile && !natural[s.Label] {
			labels = append(labels, s.Label)
		}
		labels = slices.Concat(labels, counted(s.Then, natural), counted(s.Else, natural))
	}
	return labels
}

// add adds operations to the current block.
func (l *lowering) add(ops ...api.Op) {
	b := &l.graph.Blocks[l.current]
	b.Ops = append(b.Ops, ops...)
}

// mark makes a block the one of a point.
func (l *lowering) mark(point, block int) { l.graph.Points[point] = []int{block} }

// lead makes a block the only successor of the current one.
func (l *lowering) lead(to int) { l.graph.Blocks[l.current].Next = []int{to} }

// branch makes the current block lead to one of two, by the value at the level 0.
func (l *lowering) branch(yes, no int) {
	b := &l.graph.Blocks[l.current]
	b.Cond, b.Next = l.results, []int{yes, no}
}

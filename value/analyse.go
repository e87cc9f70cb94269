package value

import (
	"slices"
	"timebound/api"
	"timebound/check"
	"timebound/congruence"
	"timebound/eval"
)

// Analyse runs a task with all inputs of some ranges at once. If taken is not 0, it is the label of an if that is taken each time.
func Analyse(p api.Program, task int, ranges []api.Range, taken int) (api.Analysis, api.Errno) {
	if e := check.Program(p); e != api.OK {
		return api.Analysis{}, e
	}
	if task < 0 || task >= len(p.Tasks) {
		return api.Analysis{}, api.ErrTask
	}
	t := p.Tasks[task]
	if !within(t.Inputs, ranges) {
		return api.Analysis{}, api.ErrInput
	}
	if taken != 0 && !slices.Contains(labels(t.Body, api.StmtIf), taken) {
		return api.Analysis{}, api.ErrLabel
	}
	r := &run{places: map[string]int{}, taken: taken, found: before(t)}
	s := r.begin(p, t, ranges)
	r.pass(0, s)
	r.block(t.Body, s)
	return r.found, api.OK
}

// within reports whether there is a range for each input, with a value, within its own.
func within(inputs []api.Input, ranges []api.Range) bool {
	if len(ranges) != len(inputs) {
		return false
	}
	for i, in := range inputs {
		if r := ranges[i]; r.Lo > r.Hi || r.Lo < in.Lo || r.Hi > in.Hi {
			return false
		}
	}
	return true
}

// labels returns the labels of all statements of a kind, those in blocks, too.
func labels(l []api.Stmt, kind int) []int {
	var found []int
	for _, st := range l {
		if st.Kind == kind {
			found = append(found, st.Label)
		}
		found = slices.Concat(found, labels(st.Then, kind), labels(st.Else, kind))
	}
	return found
}

// before returns what is found before a run begins. A loop is natural until there is a round that shows that it is not.
func before(t api.Task) api.Analysis {
	points, labelled := eval.Points(t), api.MaxLabels+1
	a := api.Analysis{Passes: make([]int, points), Vars: make([][]api.Value, points), Most: make([]int, labelled), Natural: make([]bool, labelled)}
	for point := range a.Vars {
		a.Vars[point] = slices.Repeat([]api.Value{none()}, len(t.Inputs)+len(t.Vars))
	}
	for _, label := range labels(t.Body, api.StmtWhile) {
		a.Natural[label] = true
	}
	return a
}

// begin gives all names their places, and returns the state before the first statement.
func (r *run) begin(p api.Program, t api.Task, ranges []api.Range) state {
	var s state
	add := func(name string, v api.Value) {
		r.places[name] = len(s)
		s = append(s, v)
	}
	for i, in := range t.Inputs {
		add(in.Name, Reduce(api.Value{Interval: api.Interval(ranges[i]), Residue: congruence.All()}))
	}
	for _, name := range t.Vars {
		add(name, Of(0))
	}
	for _, a := range t.Arrays {
		add(a.Name, Of(0))
	}
	for _, a := range p.Shared {
		add(a.Array.Name, All())
	}
	return s
}

package eval

import (
	"slices"
	"timebound/api"
)

// The points of a label, by what they are behind 3 times the label.
const (
	reached = iota
	begun   // Then begins
	left    // Else begins, or the loop is left
)

// job is a job in the course of its run. Names are unique in it: check refuses a task with two equal ones, those of shared arrays among them.
type job struct {
	scope
	counts []int
	steps  int
}

// newJob returns a job before its first statement.
func newJob(p api.Program, t api.Task, inputs []int, shared [][]int) *job {
	j := &job{scope: scope{map[string]int{}, map[string][]int{}}, counts: make([]int, Points(t))}
	j.counts[0] = 1
	for i, in := range t.Inputs {
		j.vars[in.Name] = inputs[i]
	}
	for _, name := range t.Vars {
		j.vars[name] = 0
	}
	for _, a := range t.Arrays {
		j.arrays[a.Name] = make([]int, a.Size)
	}
	for i, s := range p.Shared {
		j.arrays[s.Array.Name] = slices.Clone(shared[i])
	}
	return j
}

// outcome returns what the job has led to.
func (j *job) outcome(p api.Program, t api.Task) api.Outcome {
	o := api.Outcome{Counts: j.counts, Steps: j.steps}
	for _, in := range t.Inputs {
		o.Vars = append(o.Vars, j.vars[in.Name])
	}
	for _, name := range t.Vars {
		o.Vars = append(o.Vars, j.vars[name])
	}
	for _, a := range t.Arrays {
		o.Arrays = append(o.Arrays, j.arrays[a.Name])
	}
	for _, s := range p.Shared {
		o.Shared = append(o.Shared, j.arrays[s.Array.Name])
	}
	return o
}

// block carries out statements.
func (j *job) block(l []api.Stmt) {
	for _, s := range l {
		j.statement(s)
	}
}

// statement carries out a statement, which has the shape of its kind: check refuses others.
func (j *job) statement(s api.Stmt) {
	switch s.Kind {
	case api.StmtSet:
		j.vars[s.Name] = j.step(s.Value[0])
	case api.StmtStore:
		array := j.arrays[s.Name]
		at := place(j.value(s.Index[0], 1), len(array))
		array[at] = j.step(s.Value[0])
	case api.StmtIf:
		j.choose(s)
	case api.StmtWhile:
		j.repeat(s)
	case api.StmtLock:
		// A job that runs alone never waits for a resource.
		j.block(s.Then)
	}
}

// choose carries out an if.
func (j *job) choose(s api.Stmt) {
	j.pass(s.Label, reached)
	if j.step(s.Value[0]) != 0 {
		j.pass(s.Label, begun)
		j.block(s.Then)
	} else {
		j.pass(s.Label, left)
		j.block(s.Else)
	}
}

// repeat carries out a while. Behind the last of its Max bodies the condition is not evaluated: the language ends the loop.
func (j *job) repeat(s api.Stmt) {
	j.pass(s.Label, reached)
	for range s.Max {
		if j.step(s.Value[0]) == 0 {
			break
		}
		j.pass(s.Label, begun)
		j.block(s.Then)
	}
	j.pass(s.Label, left)
}

// pass counts a point of a label.
func (j *job) pass(label, point int) { j.counts[3*label+point]++ }

// step returns the value that an assignment assigns, or that of a condition; both are what steps count.
func (j *job) step(e api.Expr) int {
	j.steps++
	return j.value(e, 1)
}

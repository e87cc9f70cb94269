package value

import "timebound/api"

// The points of a label, by what they are behind 3 times the label.
const (
	reached = iota
	begun   // Then begins
	left    // Else begins, or the loop is left
)

// run is an abstract run of a task. Names are unique in it: check refuses a task with two equal ones, those of shared arrays among them.
type run struct {
	places map[string]int // of names, in each state
	taken  int            // the label of an if that is taken each time; 0: of none
	found  api.Analysis
}

// pass notes that a point is passed in a state.
func (r *run) pass(point int, s state) {
	r.found.Passes[point]++
	r.found.Vars[point] = joined(r.found.Vars[point], s, Join)
}

// block carries out statements. It returns the state behind them, and false if the run does not come to their end.
func (r *run) block(l []api.Stmt, s state) (state, bool) {
	for _, st := range l {
		behind, ended := r.statement(st, s)
		if !ended {
			return nil, false
		}
		s = behind
	}
	return s, true
}

// statement carries out a statement, which has the shape of its kind: check refuses others.
func (r *run) statement(st api.Stmt, s state) (state, bool) {
	switch st.Kind {
	case api.StmtSet:
		return r.with(s, st.Name, r.value(st.Value[0], s)), true
	case api.StmtStore:
		// All other elements stay what they were, and which one is stored is not known.
		return r.with(s, st.Name, Join(s[r.places[st.Name]], r.value(st.Value[0], s))), true
	case api.StmtIf:
		return r.choose(st, s)
	case api.StmtWhile:
		return r.repeat(st, s)
	}
	return r.block(st.Then, s)
}

// choose carries out an if, both ways.
func (r *run) choose(st api.Stmt, s state) (state, bool) {
	r.pass(3*st.Label+reached, s)
	var ends []state
	if in, gone := r.assume(st.Value[0], true, s); gone {
		r.pass(3*st.Label+begun, in)
		if end, ended := r.block(st.Then, in); ended {
			ends = append(ends, end)
		}
	}
	if in, gone := r.assume(st.Value[0], false, s); gone && st.Label != r.taken {
		r.pass(3*st.Label+left, in)
		if end, ended := r.block(st.Else, in); ended {
			ends = append(ends, end)
		}
	}
	return together(ends)
}

// repeat carries out a while.
func (r *run) repeat(st api.Stmt, s state) (state, bool) {
	r.pass(3*st.Label+reached, s)
	ends := r.rounds(st, s)
	for _, end := range ends {
		r.pass(3*st.Label+left, end)
	}
	return together(ends)
}

// rounds carries out the bodies of a while, each one in the state behind the one before it. It returns the states in which the loop is left.
func (r *run) rounds(st api.Stmt, s state) []state {
	var ends []state
	for n := range st.Max {
		if end, gone := r.assume(st.Value[0], false, s); gone {
			ends = append(ends, end)
		}
		in, gone := r.assume(st.Value[0], true, s)
		if !gone {
			return ends
		}
		r.found.Most[st.Label] = max(r.found.Most[st.Label], n+1)
		r.pass(3*st.Label+begun, in)
		behind, ended := r.block(st.Then, in)
		if !ended {
			return ends
		}
		s = behind
	}
	// The language ends the loop here, whatever the condition is.
	if _, gone := r.assume(st.Value[0], true, s); gone {
		r.found.Natural[st.Label] = false
	}
	return append(ends, s)
}

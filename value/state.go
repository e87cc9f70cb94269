package value

import (
	"slices"
	"timebound/api"
	"timebound/congruence"
	"timebound/interval"
)

// state is what all that has a name can be at one time: inputs and variables in the order of their declarations, then the elements of each array of the task, then those of each shared one, which stay All, whatever is joined to them. A state is never changed, for two ways can begin with it.
type state []api.Value

// joined joins two lists, item by item, as far as the first one goes.
func joined[T any](a, b []T, join func(x, y T) T) []T {
	l := make([]T, len(a))
	for i := range a {
		l[i] = join(a[i], b[i])
	}
	return l
}

// together returns the state behind some ways, by the states at their ends, and false if none came to its end.
func together(ends []state) (state, bool) {
	if len(ends) == 0 {
		return nil, false
	}
	s := ends[0]
	for _, end := range ends[1:] {
		s = joined(s, end, Join)
	}
	return s, true
}

// with returns a state in which a name has another value.
func (r *run) with(s state, name string, v api.Value) state {
	s = slices.Clone(s)
	s[r.places[name]] = v
	return s
}

// value returns what an expression can be. Any element of an array can be the one that is meant.
func (r *run) value(e api.Expr, s state) api.Value {
	switch e.Kind {
	case api.ExprNum:
		return Of(e.Num)
	case api.ExprBin:
		return Do(e.Op, r.value(e.Args[0], s), r.value(e.Args[1], s))
	}
	return s[r.places[e.Name]]
}

// assume returns the state in which a condition is true, or false, and false if it cannot be.
func (r *run) assume(e api.Expr, truth bool, s state) (state, bool) {
	v := r.value(e, s)
	if truth && v == Of(0) || !truth && !Has(v, 0) {
		return nil, false
	}
	if e.Kind != api.ExprBin {
		return s, true
	}
	a, b := refined(e.Op, truth, r.value(e.Args[0], s), r.value(e.Args[1], s))
	for i, v := range []api.Value{a, b} {
		if e.Args[i].Kind != api.ExprName {
			continue
		}
		if Empty(v) {
			return nil, false
		}
		s = r.with(s, e.Args[i].Name, v)
	}
	return s, true
}

// refined returns what operands can be if a comparison is true, or false; operands of other operators stay as they are.
func refined(op int, truth bool, a, b api.Value) (api.Value, api.Value) {
	a.Interval, b.Interval = interval.Refine(op, truth, a.Interval, b.Interval)
	if op == api.Eq && truth || op == api.Ne && !truth {
		a.Residue = congruence.Meet(a.Residue, b.Residue)
		b.Residue = a.Residue
	}
	return Reduce(a), Reduce(b)
}

package infer

import (
	"cmp"
	"slices"
	"timebound/api"
	"timebound/check"
	"timebound/eval"
)

// reached returns the point at which a statement with a label is reached.
func reached(label int) int { return 3 * label }

// begun returns the point at which its block Then begins.
func begun(label int) int { return 3*label + 1 }

// once returns the count of a point.
func once(point int) api.Term { return api.Term{Of: point, Coef: 1} }

// fact returns a fact of terms that are given in any order. Terms without a coefficient say nothing, and no valid fact has them.
func fact(most int, terms ...api.Term) api.Fact {
	f := api.Fact{Most: most}
	for _, t := range terms {
		if t.Coef != 0 {
			f.Terms = append(f.Terms, t)
		}
	}
	slices.SortFunc(f.Terms, func(a, b api.Term) int { return cmp.Compare(a.Of, b.Of) })
	return f
}

// passes returns how often each point with a label of a task is passed at most.
func passes(t api.Task, a api.Analysis) []api.Fact {
	var facts []api.Fact
	labels := check.Labels(t.Body)
	for point := range eval.Points(t) {
		if slices.Contains(labels, point/3) {
			facts = append(facts, fact(a.Passes[point], once(point)))
		}
	}
	return facts
}

// rounds returns how often the body of each while of a task is passed at most, by how often the while is reached.
func rounds(t api.Task, a api.Analysis) []api.Fact {
	var facts []api.Fact
	for _, label := range slices.Sorted(slices.Values(whiles(t.Body))) {
		facts = append(facts, fact(0, api.Term{Of: reached(label), Coef: -a.Most[label]}, once(begun(label))))
	}
	return facts
}

// whiles returns the labels of all whiles of statements that are right.
func whiles(l []api.Stmt) []int {
	var labels []int
	for _, s := range l {
		if s.Kind == api.StmtWhile {
			labels = append(labels, s.Label)
		}
		labels = slices.Concat(labels, whiles(s.Then), whiles(s.Else))
	}
	return labels
}

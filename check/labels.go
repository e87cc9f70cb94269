package check

import "timebound/api"

// Labels returns the labels of all ifs and whiles among statements and in their blocks, in the order of the text.
func Labels(l []api.Stmt) []int {
	var labels []int
	for s := range statements(l) {
		if labelled(s) {
			labels = append(labels, s.Label)
		}
	}
	return labels
}

// labelled reports whether a statement is of a kind that has a label.
func labelled(s api.Stmt) bool { return s.Kind == api.StmtIf || s.Kind == api.StmtWhile }

// rightLabels reports whether each label of a task is there once, and claims name two ifs.
func rightLabels(t api.Task) bool {
	kinds := map[int]int{}
	for s := range statements(t.Body) {
		if !labelled(s) {
			continue
		}
		if !within(s.Label, 1, api.MaxLabels) || kinds[s.Label] != 0 {
			return false
		}
		kinds[s.Label] = s.Kind
	}
	return every(t.Claims, func(c api.Claim) bool {
		return c.A != c.B && kinds[c.A] == api.StmtIf && kinds[c.B] == api.StmtIf
	})
}

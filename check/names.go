package check

import "timebound/api"

// What the names of a task stand for.
const (
	input = iota + 1
	variable
	array
)

// table says what names stand for: 0 if they are not declared.
type table map[string]int

// declare adds names. It reports whether none of them was there before.
func (t table) declare(kind int, names []string) bool {
	for _, n := range names {
		if t[n] != 0 {
			return false
		}
		t[n] = kind
	}
	return true
}

// namesOf returns the names of the items of a list.
func namesOf[T any](list []T, name func(T) string) []string {
	var names []string
	for _, item := range list {
		names = append(names, name(item))
	}
	return names
}

// different reports whether no name is there twice.
func different(names []string) bool { return table{}.declare(1, names) }

// rightNames reports whether each name of a program is declared once, and as what it is used.
func rightNames(p api.Program) bool {
	resources := table{}
	if !resources.declare(1, p.Resources) || !different(namesOf(p.Tasks, func(t api.Task) string { return t.Name })) {
		return false
	}
	for _, s := range p.Shared {
		if resources[s.Resource] == 0 {
			return false
		}
	}
	shared := namesOf(p.Shared, func(s api.Shared) string { return s.Array.Name })
	return every(p.Tasks, func(t api.Task) bool { return rightTask(t, shared, resources) })
}

// rightTask is rightNames for a task.
func rightTask(t api.Task, shared []string, resources table) bool {
	known := table{}
	once := known.declare(input, namesOf(t.Inputs, func(i api.Input) string { return i.Name })) &&
		known.declare(variable, t.Vars) &&
		known.declare(array, namesOf(t.Arrays, func(a api.Array) string { return a.Name })) &&
		known.declare(array, shared) &&
		different(namesOf(t.Modes, func(m api.Mode) string { return m.Name }))
	if !once || !every(t.Modes, func(m api.Mode) bool { return known[m.Input] == input }) {
		return false
	}
	for s := range statements(t.Body) {
		if s.Kind == api.StmtLock && resources[s.Name] == 0 || !declared(s, known) {
			return false
		}
	}
	return true
}

// declared reports whether what a statement and its expressions use is declared in its task.
func declared(s api.Stmt, known table) bool {
	if s.Kind == api.StmtSet && !known.variable(s.Name) || s.Kind == api.StmtStore && known[s.Name] != array {
		return false
	}
	for e := range expressions(s) {
		if e.Kind == api.ExprName && !known.variable(e.Name) || e.Kind == api.ExprIndex && known[e.Name] != array {
			return false
		}
	}
	return true
}

// variable reports whether a name is that of a variable. Inputs are variables, too.
func (t table) variable(name string) bool { return t[name] == variable || t[name] == input }

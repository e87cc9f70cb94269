package parse

import "timebound/api"

// program takes all tokens.
func (r *reader) program() api.Program {
	var p api.Program
	for r.accept("resource") {
		p.Resources = append(p.Resources, r.name())
	}
	for r.accept("shared") {
		p.Shared = append(p.Shared, api.Shared{Array: r.array(), Resource: r.name()})
	}
	for r.accept("task") {
		p.Tasks = append(p.Tasks, r.task())
	}
	if r.at < len(r.list) {
		r.fail()
	}
	return p
}

// array takes the name and the size of an array.
func (r *reader) array() api.Array { return api.Array{Name: r.name(), Size: r.num()} }

// task takes what follows the keyword task.
func (r *reader) task() api.Task {
	t := api.Task{
		Name:     r.name(),
		Period:   r.after("period"),
		Deadline: r.after("deadline"),
		Priority: r.after("priority"),
		Jitter:   r.after("jitter"),
	}
	for r.accept("input") {
		t.Inputs = append(t.Inputs, api.Input{Name: r.name(), Lo: r.number(), Hi: r.number()})
	}
	for r.accept("var") {
		t.Vars = append(t.Vars, r.name())
	}
	for r.accept("array") {
		t.Arrays = append(t.Arrays, r.array())
	}
	for r.accept("mode") {
		t.Modes = append(t.Modes, api.Mode{Name: r.name(), Input: r.name(), Lo: r.number(), Hi: r.number()})
	}
	for r.accept("never") {
		t.Claims = append(t.Claims, api.Claim{A: r.num(), B: r.num()})
	}
	r.expect("body")
	t.Body = r.stmts(0)
	r.expect("end")
	return t
}

// stmts takes statements that are within so many others.
func (r *reader) stmts(within int) []api.Stmt {
	var list []api.Stmt
	for r.begins() {
		if within == api.MaxDepth {
			r.stop(api.ErrLimit, r.here())
			return nil
		}
		list = append(list, r.stmt(within))
	}
	return list
}

// begins reports whether the next token begins a statement.
func (r *reader) begins() bool {
	t := r.next()
	return named(t) || is(t, "if") || is(t, "while") || is(t, "lock")
}

// stmt takes a statement that is within so many others.
func (r *reader) stmt(within int) api.Stmt {
	switch {
	case r.accept("if"):
		s := api.Stmt{Kind: api.StmtIf, Value: r.expr(), Label: r.after("label"), Then: r.block(within)}
		if r.accept("else") {
			s.Else = r.block(within)
		}
		return s
	case r.accept("while"):
		return api.Stmt{Kind: api.StmtWhile, Value: r.expr(), Max: r.after("max"), Label: r.after("label"), Then: r.block(within)}
	case r.accept("lock"):
		return api.Stmt{Kind: api.StmtLock, Name: r.name(), Then: r.block(within)}
	}
	return r.assignment()
}

// block takes the block of a statement that is within so many others.
func (r *reader) block(within int) []api.Stmt {
	r.expect("{")
	list := r.stmts(within + 1)
	r.expect("}")
	return list
}

// assignment takes an assignment to a variable or to an element.
func (r *reader) assignment() api.Stmt {
	s := api.Stmt{Kind: api.StmtSet, Name: r.name()}
	if r.accept("[") {
		s.Kind, s.Index = api.StmtStore, r.expr()
		r.expect("]")
	}
	r.expect("=")
	s.Value = r.expr()
	return s
}

// expr takes an expression, and returns it as a list of one.
func (r *reader) expr() []api.Expr {
	b := newBuilder()
	for b.take(r.next()) {
		r.at++
	}
	// What is too deep ends in front of the next token, so that this error comes first.
	if b.deep {
		r.stop(api.ErrLimit, b.line)
		return nil
	}
	if !b.whole() {
		r.fail()
		return nil
	}
	return []api.Expr{b.finish()}
}

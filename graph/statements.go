package graph

import (
	"slices"
	"timebound/api"
)

// block adds statements.
func (l *lowering) block(list []api.Stmt) {
	for _, s := range list {
		l.statement(s)
	}
}

// statement adds a statement, which has the shape of its kind: check refuses others.
func (l *lowering) statement(s api.Stmt) {
	switch s.Kind {
	case api.StmtSet:
		l.value(s.Value[0], 0)
		l.add(api.Op{Kind: api.OpCopy, Dst: l.numbers[s.Name], A: l.results})
	case api.StmtStore:
		l.value(s.Index[0], 0)
		l.value(s.Value[0], 1)
		l.add(api.Op{Kind: api.OpStore, A: l.results, B: l.results + 1, Imm: l.numbers[s.Name]})
	case api.StmtIf:
		l.choose(s)
	case api.StmtWhile:
		l.repeat(s)
	case api.StmtLock:
		l.hold(s)
	}
}

// value adds an expression, whose value is in the intermediate variable of a level behind it. Those of lower levels stay as they are.
func (l *lowering) value(e api.Expr, level int) {
	dst := l.results + level
	switch e.Kind {
	case api.ExprNum:
		l.add(api.Op{Kind: api.OpConst, Dst: dst, Imm: e.Num})
	case api.ExprName:
		l.add(api.Op{Kind: api.OpCopy, Dst: dst, A: l.numbers[e.Name]})
	case api.ExprIndex:
		l.value(e.Args[0], level)
		l.add(api.Op{Kind: api.OpLoad, Dst: dst, A: dst, Imm: l.numbers[e.Name]})
	case api.ExprBin:
		l.value(e.Args[0], level)
		l.value(e.Args[1], level+1)
		l.add(api.Op{Kind: api.OpBin, Dst: dst, A: dst, B: dst + 1, Imm: e.Op})
	}
}

// choose adds an if.
func (l *lowering) choose(s api.Stmt) {
	l.mark(3*s.Label+reached, l.current)
	l.value(s.Value[0], 0)
	yes, no := l.fresh(3*s.Label+begun), l.fresh(3*s.Label+left)
	l.branch(yes, no)
	l.current = yes
	l.block(s.Then)
	yes = l.current
	l.current = no
	l.block(s.Else)
	behind := l.fresh()
	l.lead(behind)
	l.current = yes
	l.lead(behind)
	l.current = behind
}

// repeat adds a while. If it is limited by a counter, a test of this one comes before its head.
func (l *lowering) repeat(s api.Stmt) {
	l.mark(3*s.Label+reached, l.current)
	first := len(l.graph.Blocks)
	l.graph.Heads = append(l.graph.Heads, api.Head{Block: first, Max: min(s.Max, l.most[s.Label])})
	counter, limited := l.counters[s.Label]
	if limited {
		l.add(api.Op{Kind: api.OpConst, Dst: counter})
		l.fresh()
	}
	head, body, exit := l.fresh(), l.fresh(3*s.Label+begun), l.fresh(3*s.Label+left)
	l.lead(first)
	if limited {
		l.current = first
		l.add(
			api.Op{Kind: api.OpConst, Dst: l.results + 1, Imm: s.Max},
			api.Op{Kind: api.OpBin, Dst: l.results, A: counter, B: l.results + 1, Imm: api.Lt})
		l.branch(head, exit)
	}
	l.current = head
	l.value(s.Value[0], 0)
	l.branch(body, exit)
	l.current = body
	l.block(s.Then)
	if limited {
		l.add(
			api.Op{Kind: api.OpConst, Dst: l.results, Imm: 1},
			api.Op{Kind: api.OpBin, Dst: counter, A: counter, B: l.results, Imm: api.Add})
	}
	l.lead(first)
	l.current = exit
}

// hold adds a lock. Its resource is held by whole blocks.
func (l *lowering) hold(s api.Stmt) {
	resource := slices.Index(l.resources, s.Name)
	held := l.fresh()
	l.lead(held)
	l.current = held
	l.add(api.Op{Kind: api.OpLock, Imm: resource})
	l.block(s.Then)
	l.add(api.Op{Kind: api.OpUnlock, Imm: resource})
	behind := l.fresh()
	l.lead(behind)
	l.current = behind
}

package parse

import (
	"strings"
	"timebound/api"
)

// How tightly that which is open holds its operands. A bracket is closed by a sign of its own alone.
const (
	bracket = iota
	comparison
	sum
	term
	minus
)

// builder builds an expression from tokens. Its stacks take the place of recursion: brackets may be in one another any number of times.
type builder struct {
	lines    [minus]finder
	parts    []part
	open     []pending
	brackets int  // how many of open are brackets
	ended    bool // the last token is the last one of an operand
	deep     bool // a part was too deep
	line     int  // of the last token of the first such part
}

// part is a part of an expression that has ended.
type part struct {
	expr  api.Expr
	depth int
	line  int  // of its last token
	bare  bool // it is a NAME that can yet turn out to be one of an array
}

// pending is an operator that waits for its right operand, or a bracket that is not closed.
type pending struct {
	level int
	op    int
	close string // the sign that closes a bracket
	array string // its name, if the bracket is that of an index
}

// finder finds the operator that a token is: 0 if it is none of its line of the grammar.
type finder func(t api.Token) int

func newBuilder() *builder { return &builder{lines: lines()} }

// lines returns the finders of the lines of the grammar that have operators between two operands.
func lines() [minus]finder {
	return [...]finder{
		comparison: among(map[string]int{"<": api.Lt, "<=": api.Le, "==": api.Eq, "!=": api.Ne}),
		sum:        among(map[string]int{"+": api.Add, "-": api.Sub, "|": api.Or, "^": api.Xor}),
		term:       among(map[string]int{"*": api.Mul, "/": api.Div, "%": api.Rem, "&": api.And, "<<": api.Shl, ">>": api.Shr}),
	}
}

// among returns the finder of a line of the grammar with these operators.
func among(signs map[string]int) finder {
	return func(t api.Token) int {
		if t.Kind != api.TokenSign {
			return 0
		}
		return signs[t.Text]
	}
}

// take takes a token, if it can follow. If it cannot follow an operand, all that ends in front of it is built, so that it is known whether that is too deep.
func (b *builder) take(t api.Token) bool {
	if b.ended {
		return b.proceed(t)
	}
	return b.begin(t)
}

// whole reports whether the tokens so far are an expression.
func (b *builder) whole() bool { return b.ended && b.brackets == 0 }

// finish returns the expression. The builder is whole.
func (b *builder) finish() api.Expr {
	b.build(comparison)
	return b.parts[0].expr
}

// begin takes a token with which a factor begins.
func (b *builder) begin(t api.Token) bool {
	switch {
	case t.Kind == api.TokenNum:
		b.number(t)
	case t.Text == "-":
		b.push(leaf(api.Expr{Kind: api.ExprNum}, t))
		b.open = append(b.open, pending{level: minus, op: api.Sub})
	case named(t):
		// The name is copied: a result shares no memory with the tokens.
		p := leaf(api.Expr{Kind: api.ExprName, Name: strings.Clone(t.Text)}, t)
		p.bare = true
		b.push(p)
		b.ended = true
	case t.Text == "(":
		b.bracket(pending{close: ")"})
	default:
		return false
	}
	return true
}

// number takes a number. A minus in front of it is a part of it, no operator.
func (b *builder) number(t api.Token) {
	n := t.Num
	if b.top().level == minus {
		b.close()
		b.pop()
		n = -n
	}
	b.push(leaf(api.Expr{Kind: api.ExprNum, Num: n}, t))
	b.ended = true
}

// proceed takes a token that follows an operand.
func (b *builder) proceed(t api.Token) bool {
	if b.parts[len(b.parts)-1].bare && is(t, "[") {
		b.bracket(pending{close: "]", array: b.pop().expr.Name})
		return true
	}
	for level := comparison; level < minus; level++ {
		if op := b.lines[level](t); op != 0 {
			return b.operator(level, op)
		}
	}
	b.build(comparison)
	if b.brackets == 0 || !is(t, b.top().close) {
		return false
	}
	b.closeBracket(t)
	return true
}

// operator takes an operator between two operands. What a comparison returns is not compared again.
func (b *builder) operator(level, op int) bool {
	if b.build(level) {
		return false
	}
	b.open = append(b.open, pending{level: level, op: op})
	b.ended = false
	return true
}

// bracket opens a bracket.
func (b *builder) bracket(p pending) {
	b.open = append(b.open, p)
	b.brackets++
	b.ended = false
}

// closeBracket closes a bracket whose content is built.
func (b *builder) closeBracket(t api.Token) {
	open, inner := b.close(), b.pop()
	b.brackets--
	inner.line, inner.bare = t.Line, false
	if open.close == "]" {
		inner.expr = api.Expr{Kind: api.ExprIndex, Name: open.array, Args: []api.Expr{inner.expr}}
		inner.depth++
	}
	b.push(inner)
}

// build builds what is open since the innermost bracket and holds its operands at least this tightly. It reports whether there is a comparison among it.
func (b *builder) build(level int) bool {
	compared := false
	for b.top().level >= level {
		open, right, left := b.close(), b.pop(), b.pop()
		b.push(part{
			expr:  api.Expr{Kind: api.ExprBin, Op: open.op, Args: []api.Expr{left.expr, right.expr}},
			depth: 1 + max(left.depth, right.depth),
			line:  right.line,
		})
		compared = open.level == comparison
	}
	return compared
}

// push adds a part. The expression of one that is too deep is left out, for nobody gets it, and it could be great.
func (b *builder) push(p part) {
	if p.depth > api.MaxDepth {
		p.expr = api.Expr{}
		if !b.deep {
			b.deep, b.line = true, p.line
		}
	}
	b.parts = append(b.parts, p)
}

// pop takes the last part away.
func (b *builder) pop() part {
	last := len(b.parts) - 1
	p := b.parts[last]
	b.parts = b.parts[:last]
	return p
}

// close takes the innermost of what is open away.
func (b *builder) close() pending {
	last := len(b.open) - 1
	p := b.open[last]
	b.open = b.open[:last]
	return p
}

// top returns the innermost of what is open, without taking it: something like a bracket if there is nothing.
func (b *builder) top() pending {
	if len(b.open) == 0 {
		return pending{level: bracket}
	}
	return b.open[len(b.open)-1]
}

// leaf returns an expression of one token as a part.
func leaf(e api.Expr, t api.Token) part { return part{expr: e, depth: 1, line: t.Line} }

package parse

import (
	"math/rand"
	"reflect"
	"slices"
	"strconv"
	"strings"
	"testing"
	"timebound/api"
	"timebound/token"
)

// grammarText is the grammar of the chapter.
const grammarText = `
program  = { "resource" NAME } { "shared" NAME NUM NAME } { task }
task     = "task" NAME "period" NUM "deadline" NUM "priority" NUM "jitter" NUM
           { "input" NAME number number } { "var" NAME } { "array" NAME NUM }
           { "mode" NAME NAME number number } { "never" NUM NUM } "body" { stmt } "end"
number   = [ "-" ] NUM
stmt     = NAME "=" expr | NAME "[" expr "]" "=" expr
         | "if" expr "label" NUM block [ "else" block ]
         | "while" expr "max" NUM "label" NUM block
         | "lock" NAME block
block    = "{" { stmt } "}"
expr     = sum [ ( "<" | "<=" | "==" | "!=" ) sum ]
sum      = term { ( "+" | "-" | "|" | "^" ) term }
term     = factor { ( "*" | "/" | "%" | "&" | "<<" | ">>" ) factor }
factor   = NUM | "-" factor | NAME | NAME "[" expr "]" | "(" expr ")"
`

// grammar is the rules of each symbol; the symbols of a rule are words in quotes, NAME, NUM and other symbols.
type grammar struct {
	rules    map[string][][]string
	keywords map[string]bool
	empty    map[string]bool // symbols that can stand for nothing
}

// chapterGrammar reads grammarText. Groups become symbols of their own.
func chapterGrammar() *grammar {
	g := &grammar{rules: map[string][][]string{}, keywords: map[string]bool{}, empty: map[string]bool{}}
	words := strings.Fields(grammarText)
	for i, w := range words {
		if s := strings.Trim(w, `"`); s != w && token.Name(s) {
			g.keywords[s] = true
		}
		if w == "=" {
			end := len(words)
			if k := slices.Index(words[i+1:], "="); k >= 0 {
				end = i + k
			}
			rest := words[i+1 : end]
			g.alternatives(words[i-1], &rest)
		}
	}
	for changed := true; changed; {
		changed = false
		for s, rules := range g.rules {
			for _, rule := range rules {
				if !g.empty[s] && !slices.ContainsFunc(rule, func(x string) bool { return !g.empty[x] }) {
					g.empty[s], changed = true, true
				}
			}
		}
	}
	return g
}

// alternatives makes the rules of a symbol from words, up to the end of them or of a group.
func (g *grammar) alternatives(symbol string, words *[]string) {
	rule := []string{}
	for len(*words) > 0 {
		w := (*words)[0]
		*words = (*words)[1:]
		switch w {
		case "{", "[", "(":
			group := "group " + strconv.Itoa(len(g.rules))
			g.rules[group] = nil
			g.alternatives(group, words)
			if w == "{" {
				for i, r := range g.rules[group] {
					g.rules[group][i] = append([]string{group}, r...)
				}
			}
			if w != "(" {
				g.rules[group] = append(g.rules[group], []string{})
			}
			rule = append(rule, group)
		case "}", "]", ")":
			g.rules[symbol] = append(g.rules[symbol], rule)
			return
		case "|":
			g.rules[symbol] = append(g.rules[symbol], rule)
			rule = []string{}
		default:
			rule = append(rule, w)
		}
	}
	g.rules[symbol] = append(g.rules[symbol], rule)
}

// fits reports whether a token of a text is a symbol.
func (g *grammar) fits(symbol string, t api.Token) bool {
	switch {
	case symbol == "NAME":
		return t.Kind == api.TokenName && !g.keywords[t.Text]
	case symbol == "NUM":
		return t.Kind == api.TokenNum
	}
	return t.Kind != api.TokenNum && symbol == `"`+t.Text+`"`
}

// item is a rule of which some symbols have been recognised, from a token on.
type item struct {
	symbol         string
	rule, dot, own int
}

// recognise returns how many tokens are the beginning of something that a symbol stands for, and all sizes of beginnings that it stands for (Earley's algorithm).
func (g *grammar) recognise(symbol string, l []api.Token) (int, []int) {
	var sizes []int
	sets := [][]item{nil}
	for i := range g.rules[symbol] {
		sets[0] = append(sets[0], item{symbol, i, 0, 0})
	}
	for at := 0; len(sets[at]) > 0; at++ {
		sets = append(sets, nil)
		seen := map[item]bool{}
		add := func(x item) {
			if !seen[x] {
				seen[x] = true
				sets[at] = append(sets[at], x)
			}
		}
		for _, x := range sets[at] {
			seen[x] = true
		}
		for k := 0; k < len(sets[at]); k++ {
			x := sets[at][k]
			rule := g.rules[x.symbol][x.rule]
			forward := item{x.symbol, x.rule, x.dot + 1, x.own}
			switch {
			case x.dot == len(rule):
				if x.symbol == symbol && x.own == 0 && !slices.Contains(sizes, at) {
					sizes = append(sizes, at)
				}
				for _, y := range sets[x.own] {
					if r := g.rules[y.symbol][y.rule]; y.dot < len(r) && r[y.dot] == x.symbol {
						add(item{y.symbol, y.rule, y.dot + 1, y.own})
					}
				}
			case g.rules[rule[x.dot]] != nil:
				for i := range g.rules[rule[x.dot]] {
					add(item{rule[x.dot], i, 0, at})
				}
				if g.empty[rule[x.dot]] {
					add(forward)
				}
			case at < len(l) && g.fits(rule[x.dot], l[at]):
				sets[at+1] = append(sets[at+1], forward)
			}
		}
	}
	return len(sets) - 2, sizes
}

// derive returns words that a symbol stands for, with fewer choices when there are many steps.
func (g *grammar) derive(r *rand.Rand, symbol string, steps *int) []string {
	switch symbol {
	case "NAME":
		return []string{[]string{"a", "b", "x1"}[r.Intn(3)]}
	case "NUM":
		return []string{strconv.Itoa(r.Intn(12))}
	}
	rules := g.rules[symbol]
	if rules == nil {
		return []string{strings.Trim(symbol, `"`)}
	}
	*steps--
	rule := rules[r.Intn(len(rules))]
	if *steps < 0 {
		switch {
		case g.empty[symbol]:
			return nil
		case symbol == "factor" || symbol == "stmt":
			rule = rules[0]
		}
	}
	var list []string
	for _, s := range rule {
		list = append(list, g.derive(r, s, steps)...)
	}
	return list
}

// damage changes some of the words.
func damage(r *rand.Rand, list []string) []string {
	all := strings.Fields("resource shared task period body end input var if else while max label lock a b 3 + - | * << < == = ( ) [ ] { }")
	list = slices.Clone(list)
	for range r.Intn(3) {
		i := r.Intn(len(list) + 1)
		switch r.Intn(4) {
		case 0:
			list = slices.Insert(list, i, all[r.Intn(len(all))])
		case 1:
			list = slices.Delete(list, i, min(i+1, len(list)))
		case 2:
			list = slices.Replace(list, i, min(i+1, len(list)), all[r.Intn(len(all))])
		default:
			list = list[:i]
		}
	}
	return list
}

// stop is an error at a token.
type stop struct {
	at   int
	code api.Errno
}

// descent reads an expression by recursion, one function for each symbol; it panics with a stop.
type descent struct {
	l  []api.Token
	at int
}

func (d *descent) peek(signs string) bool {
	return d.at < len(d.l) && d.l[d.at].Kind == api.TokenSign && slices.Contains(strings.Fields(signs), d.l[d.at].Text)
}

func (d *descent) need(s string) {
	if !d.peek(s) {
		panic(stop{d.at, api.ErrText})
	}
	d.at++
}

// join makes an expression of others, the last of which has just been read.
func (d *descent) join(e api.Expr) api.Expr {
	if depth(e) > api.MaxDepth {
		panic(stop{d.at - 1, api.ErrLimit})
	}
	return e
}

func depth(e api.Expr) int {
	deepest := 0
	for _, x := range e.Args {
		deepest = max(deepest, depth(x))
	}
	return 1 + deepest
}

func (d *descent) binary(level int) api.Expr {
	if level == 3 {
		return d.factor()
	}
	e := d.binary(level + 1)
	signs := []string{"< <= == !=", "+ - | ^", "* / % & << >>"}[level]
	for d.peek(signs) {
		op := api.Add + slices.Index(strings.Fields("+ - * / % & | ^ << >> < <= == !="), d.l[d.at].Text)
		d.at++
		e = d.join(bin(op, e, d.binary(level+1)))
		if level == 0 {
			break
		}
	}
	return e
}

func (d *descent) factor() api.Expr {
	if d.at == len(d.l) {
		panic(stop{d.at, api.ErrText})
	}
	t := d.l[d.at]
	d.at++
	switch {
	case t.Kind == api.TokenNum:
		return n(t.Num)
	case t.Text == "-" && d.at < len(d.l) && d.l[d.at].Kind == api.TokenNum:
		d.at++
		return n(-d.l[d.at-1].Num)
	case t.Text == "-":
		return d.join(bin(api.Sub, n(0), d.factor()))
	case t.Text == "(":
		e := d.binary(0)
		d.need(")")
		return e
	case t.Kind == api.TokenName && !chapter.keywords[t.Text]:
		if !d.peek("[") {
			return v(t.Text)
		}
		d.at++
		e := d.binary(0)
		d.need("]")
		return d.join(at(t.Text, e))
	}
	panic(stop{d.at - 1, api.ErrText})
}

// descend returns the expression with which tokens begin; how many it has, or where the error is; and the error.
func descend(l []api.Token) (e api.Expr, at int, code api.Errno) {
	d := descent{l: l}
	defer func() {
		if s, ok := recover().(stop); ok {
			e, at, code = api.Expr{}, s.at, s.code
		}
	}()
	e = d.binary(0)
	return e, d.at, api.OK
}

var chapter = chapterGrammar()

// agreesAsExpr compares Expr with the grammar, and its result with the recursion.
func agreesAsExpr(t *testing.T, l []api.Token) {
	t.Helper()
	_, sizes := chapter.recognise("expr", l)
	if len(sizes) == 0 {
		refuses(t, l, api.ErrText)
		return
	}
	size := slices.Max(sizes)
	e, k, code := descend(l[:size])
	switch {
	case code == api.ErrLimit:
		refuses(t, l, code)
	case code != api.OK || k != size:
		t.Fatalf("the recursion takes %d of %d tokens of %s, error %d", k, size, words(l), code)
	default:
		reads(t, l, e, size)
	}
}

// agreesInProgram compares Program with the recursion, for a condition whose tokens have lines of their own. (Behind a condition, no name can follow.)
func agreesInProgram(t *testing.T, list []string) {
	t.Helper()
	e, k, code := descend(scan(t, strings.Join(append(slices.Clone(list), "end"), " ")))
	if code == api.OK && k < len(list) {
		code = api.ErrText
	}
	text := header + "body while\n" + strings.Join(list, "\n") + "\nmax 4 label 2 { } end"
	if code != api.OK {
		fails(t, text, 3+k, code)
		return
	}
	body := []api.Stmt{{Kind: api.StmtWhile, Value: one(e), Max: 4, Label: 2}}
	parses(t, text, api.Program{Tasks: []api.Task{{Name: "t", Period: 200, Deadline: 150, Priority: 3, Jitter: 5, Body: body}}})
}

func TestAllShortExpressions(t *testing.T) {
	all := strings.Fields("a 1 - * < ( ) [ ]")
	var try func(list []string, more int)
	try = func(list []string, more int) {
		agreesAsExpr(t, scan(t, strings.Join(list, " ")))
		if len(list) > 0 {
			agreesInProgram(t, list)
		}
		if more == 0 || t.Failed() {
			return
		}
		for _, w := range all {
			try(append(slices.Clip(list), w), more-1)
		}
	}
	try(nil, 4)
}

func TestManyExpressions(t *testing.T) {
	r := rand.New(rand.NewSource(3))
	count := map[api.Errno]int{}
	for range 6000 {
		steps := r.Intn(70)
		list := damage(r, chapter.derive(r, "expr", &steps))
		l := scan(t, strings.Join(list, " "))
		agreesAsExpr(t, l)
		if len(list) > 0 && !slices.Contains(list, "max") {
			agreesInProgram(t, list)
		}
		_, _, e := Expr(l)
		count[e]++
		if t.Failed() {
			return
		}
	}
	if count[api.OK] < 100 || count[api.ErrText] < 100 || count[api.ErrLimit] < 100 {
		t.Errorf("of each result: %v", count)
	}
}

// TestManyPrograms compares where Program finds an error with the grammar.
func TestManyPrograms(t *testing.T) {
	r := rand.New(rand.NewSource(4))
	count := map[api.Errno]int{}
	for range 4000 {
		steps := r.Intn(200)
		list := damage(r, chapter.derive(r, "program", &steps))
		text := strings.Join(list, "\n")
		l := scan(t, text)
		p, line, e := Program(text)
		count[e]++
		size, sizes := chapter.recognise("program", l)
		switch {
		case e == api.ErrLimit:
			if line > size {
				t.Errorf("Program(%s): error %d in line %d, but %d tokens are right", brief(text), e, line, size)
			}
		case size == len(l) && slices.Contains(sizes, size):
			if e != api.OK || line != 0 {
				t.Errorf("Program(%s): line %d, error %d", brief(text), line, e)
			}
			writes(t, p, list)
		default:
			fails(t, text, max(1, min(size+1, len(l))), api.ErrText)
		}
		if t.Failed() {
			return
		}
	}
	if count[api.OK] < 100 || count[api.ErrText] < 100 {
		t.Errorf("of each result: %v", count)
	}
}

// writes checks that a program has the words, in their order, but for parentheses and what they stand for in expressions.
func writes(t *testing.T, p api.Program, list []string) {
	t.Helper()
	var got []string
	put := func(l ...any) {
		for _, x := range l {
			switch y := x.(type) {
			case string:
				got = append(got, y)
			case int:
				got = append(got, strconv.Itoa(y))
			}
		}
	}
	for _, s := range p.Resources {
		put("resource", s)
	}
	for _, s := range p.Shared {
		put("shared", s.Array.Name, s.Array.Size, s.Resource)
	}
	for _, k := range p.Tasks {
		put("task", k.Name, "period", k.Period, "deadline", k.Deadline, "priority", k.Priority, "jitter", k.Jitter)
		for _, x := range k.Inputs {
			put("input", x.Name, x.Lo, x.Hi)
		}
		for _, x := range k.Vars {
			put("var", x)
		}
		for _, x := range k.Arrays {
			put("array", x.Name, x.Size)
		}
		for _, x := range k.Modes {
			put("mode", x.Name, x.Input, x.Lo, x.Hi)
		}
		for _, x := range k.Claims {
			put("never", x.A, x.B)
		}
		put("body")
		putStmts(put, k.Body)
		put("end")
	}
	if want := bare(list); !slices.Equal(bare(got), want) {
		t.Errorf("Program(%s) = %+v", brief(strings.Join(list, " ")), p)
	}
}

func putStmts(put func(...any), list []api.Stmt) {
	for _, s := range list {
		switch s.Kind {
		case api.StmtSet:
			put(s.Name, "=")
			putExpr(put, s.Value[0])
		case api.StmtStore:
			put(s.Name, "[")
			putExpr(put, s.Index[0])
			put("]", "=")
			putExpr(put, s.Value[0])
		case api.StmtIf:
			put("if")
			putExpr(put, s.Value[0])
			put("label", s.Label)
		case api.StmtWhile:
			put("while")
			putExpr(put, s.Value[0])
			put("max", s.Max, "label", s.Label)
		case api.StmtLock:
			put("lock", s.Name)
		}
		if s.Kind >= api.StmtIf {
			put("{")
			putStmts(put, s.Then)
			put("}")
		}
		if len(s.Else) > 0 {
			put("else", "{")
			putStmts(put, s.Else)
			put("}")
		}
	}
}

func putExpr(put func(...any), e api.Expr) {
	switch e.Kind {
	case api.ExprNum:
		put(e.Num)
	case api.ExprName:
		put(e.Name)
	case api.ExprIndex:
		put(e.Name, "[")
		putExpr(put, e.Args[0])
		put("]")
	case api.ExprBin:
		putExpr(put, e.Args[0])
		put(strings.Fields("+ - * / % & | ^ << >> < <= == !=")[e.Op-api.Add])
		putExpr(put, e.Args[1])
	}
}

// bare leaves out of words what does not show in the program: parentheses, else blocks without statements, minuses, and the 0 in front of one.
func bare(list []string) []string {
	text := strings.Join(slices.DeleteFunc(slices.Clone(list), func(w string) bool { return w == "(" || w == ")" }), " ")
	text = strings.ReplaceAll(text, "else { }", "")
	text = strings.ReplaceAll(text, "-", " - ")
	words := slices.DeleteFunc(strings.Fields(text), func(w string) bool { return w == "-" || w == "0" })
	return words
}

// TestParsedExpressionsAgain writes expressions of all shapes with all parentheses, and reads them again.
func TestParsedExpressionsAgain(t *testing.T) {
	r := rand.New(rand.NewSource(5))
	for range 3000 {
		e, text := shape(r, 1+r.Intn(api.MaxDepth))
		l := scan(t, text)
		reads(t, l, e, len(l))
	}
}

// shape returns an expression that is at most so deep, and a text of it.
func shape(r *rand.Rand, most int) (api.Expr, string) {
	kind := r.Intn(6)
	if most == 1 {
		kind = r.Intn(2)
	}
	switch kind {
	case 0:
		k := r.Intn(100) - 50
		return n(k), "(" + strconv.Itoa(k) + ")"
	case 1:
		return v("b"), "b"
	case 2:
		e, text := shape(r, most-1)
		return at("a", e), "a[" + text + "]"
	}
	op := api.Add + r.Intn(api.Ne)
	a, first := shape(r, most-1)
	b, second := shape(r, most-1)
	return bin(op, a, b), "(" + first + strings.Fields("+ - * / % & | ^ << >> < <= == !=")[op-api.Add] + second + ")"
}

// TestGrammarOfTheTests checks the recogniser itself.
func TestGrammarOfTheTests(t *testing.T) {
	if len(chapter.keywords) != 20 {
		t.Errorf("keywords: %v", chapter.keywords)
	}
	for _, c := range []struct {
		symbol, text string
		size         int
		sizes        []int
	}{
		{"expr", "a + b * ( c", 6, []int{1, 3}},
		{"expr", "a [ 1 ] [", 4, []int{1, 4}},
		{"program", "resource r shared a", 4, []int{0, 2}},
		{"block", "{ a = 1 } }", 5, []int{5}},
		{"number", "- - 1", 1, nil},
	} {
		if size, sizes := chapter.recognise(c.symbol, scan(t, c.text)); size != c.size || !reflect.DeepEqual(sizes, c.sizes) {
			t.Errorf("%q: %d, %v", c.text, size, sizes)
		}
	}
}

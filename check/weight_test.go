package check

import (
	"math"
	"math/rand"
	"slices"
	"strconv"
	"testing"
	"timebound/api"
)

func weighs(t *testing.T, what string, l []api.Stmt, want int) {
	t.Helper()
	if w := Weight(l); w != want {
		t.Errorf("%s: weight %d, not %d", what, w, want)
	}
}

func labels(t *testing.T, what string, l []api.Stmt, want ...int) {
	t.Helper()
	if got := Labels(l); !slices.Equal(got, want) {
		t.Errorf("%s: labels %v, not %v", what, got, want)
	}
}

// tower returns an expression of a depth: one in another, each of the same kind.
func tower(kind, depth int) api.Expr {
	e := api.Expr{Kind: kind}
	for range depth - 1 {
		e = api.Expr{Kind: kind, Args: []api.Expr{e}}
	}
	return e
}

// P5.1: Weight

func TestWeight(t *testing.T) {
	weighs(t, "nothing", nil, 0)
	weighs(t, "an empty list", []api.Stmt{}, 0)
	for body, want := range map[string]int{
		"i = 1":                1 + 1,
		"i = i + 1":            1 + 3,
		"i = a[i]":             1 + 2,
		"i = -i":               1 + 3,
		"i = a[b[i] * 2] - 7":  1 + 7,
		"a[1] = 2":             1 + 1 + 1,
		"a[i + 1] = a[i] * 2":  1 + 3 + 4,
		"i = 1 k = 2 i = k":    3 * 2,
		"lock r { }":           2,
		"lock r { i = 1 }":     2 + 2,
		"if 1 label 1 { }":     2 + 1,
		"if 1 < 2 label 1 { }": 2 + 3,
		"if 1 label 1 { i = 1 } else { i = 1 i = a[2] }":                    2 + 1 + 2 + 5,
		"if 1 label 1 { } else { i = 1 }":                                   2 + 1 + 2,
		"while c max 10 label 1 { i = i + 1 }":                              79,
		"while c max 0 label 1 { }":                                         2 + 3,
		"while c max 0 label 1 { i = 1 }":                                   2 + 5,
		"while c max 1 label 1 { i = 1 }":                                   2 + 2*5,
		"while c max 32 label 1 { i = 1 }":                                  2 + 33*5,
		"while c max 33 label 1 { i = 1 }":                                  2 + 34*5,
		"while c max 34 label 1 { i = 1 }":                                  2 + 34*5,
		"while c max 2147483647 label 1 { i = 1 }":                          2 + 34*5,
		"while 1 max 3 label 1 { while i - 1 max 4 label 2 { i = 1 } }":     2 + 4*(3+2+5*(2+3+2)),
		"lock r { if i label 1 { while i max 1 label 2 { } } i = 1 } i = k": 2 + 3 + (2 + 2*3) + 2 + 2,
	} {
		weighs(t, body, parsed(t, source("", "", body)).Tasks[0].Body, want)
	}
	for most, times := range map[int]int{-1: 1, -5: 1, math.MinInt: 1, 0: 1, 31: 32, 32: 33, 33: 34, 34: 34, 1 << 40: 34, 1<<32 + 1: 34, math.MaxInt: 34} {
		weighs(t, "Max "+strconv.Itoa(most), listOf(loop(n(1), most, 1, set("i", n(1)))), 2+times*5)
	}
}

// TestWeightOfAnything weighs statements that are not printable.
func TestWeightOfAnything(t *testing.T) {
	weighs(t, "a set of nothing", listOf(api.Stmt{Kind: api.StmtSet}), 1)
	weighs(t, "a store of nothing", listOf(api.Stmt{Kind: api.StmtStore}), 1)
	weighs(t, "an if without a condition", listOf(api.Stmt{Kind: api.StmtIf, Label: -3}), 2)
	weighs(t, "a while without a condition", listOf(api.Stmt{Kind: api.StmtWhile, Max: 4}), 2+5*2)
	weighs(t, "values", listOf(api.Stmt{Kind: api.StmtStore, Index: []api.Expr{n(1), n(2)}, Value: []api.Expr{n(1), chain(2)}}), 1+2+4)
	for kind := -1; kind < 7; kind++ {
		// The kind of an expression does not matter.
		e := api.Expr{Kind: kind, Name: "A", Op: 99, Num: 1 << 40, Args: []api.Expr{{}, {Kind: 4}, {Args: []api.Expr{{}}}}}
		weighs(t, "expressions of any kind", listOf(set("", e)), 1+5)
	}
	for _, kind := range []int{0, -1, 6, math.MaxInt, math.MinInt} {
		weighs(t, "a kind that there is not", []api.Stmt{{Kind: kind}, set("i", n(1))}, 2)
	}
}

func TestWeightOfDeepExpressions(t *testing.T) {
	for depth := 1; depth < 60; depth++ {
		weight := depth
		if depth > 20 {
			weight = 1 << 40
		}
		for kind := range 6 {
			e := tower(kind, depth)
			what := "an expression of the depth " + strconv.Itoa(depth)
			weighs(t, what, listOf(set("i", e)), min(1+weight, 1<<40))
			weighs(t, what+" as an index", listOf(store("a", e, n(1))), min(2+weight, 1<<40))
			weighs(t, what+" in an if", listOf(choice(e, 1, nil, nil)), min(2+weight, 1<<40))
			weighs(t, what+" in a while", listOf(loop(e, 0, 1)), min(4+weight, 1<<40))
			weighs(t, what+" behind others", listOf(set("i", api.Expr{Args: []api.Expr{n(1), n(1), e}})), within40(1+3+weight, depth < 20))
			// Levels of statements are not those of expressions.
			weighs(t, what+" of a statement of the depth 20", locks(19, set("i", e)), min(2*19+1+weight, 1<<40))
		}
	}
}

// within40 is a weight, or the greatest one.
func within40(weight int, exact bool) int {
	if exact {
		return weight
	}
	return 1 << 40
}

// locks returns statements within so many locks.
func locks(others int, l ...api.Stmt) []api.Stmt {
	for range others {
		l = listOf(lock("r", l...))
	}
	return l
}

func TestWeightOfDeepStatements(t *testing.T) {
	for depth := 1; depth < 60; depth++ {
		what := "statements of the depth " + strconv.Itoa(depth)
		weighs(t, what, locks(depth-1, set("i", n(1))), within40(2*(depth-1)+2, depth <= 20))
		weighs(t, what+", one of no kind", locks(depth-1, api.Stmt{}), within40(2*(depth-1), depth <= 20))
		weighs(t, what+" in an else", listOf(choice(n(1), 1, nil, locks(depth-1, set("i", n(1))))), within40(3+2*depth, depth < 20))
		weighs(t, what+" in a while", listOf(loop(n(1), 0, 1, locks(depth-1, set("i", n(1)))...)), within40(5+2*depth, depth < 20))
		weighs(t, "an empty block behind "+what, locks(depth, nil...), within40(2*depth, depth <= 20))
	}
}

// TestGreatestWeight has loops in loops: their weights grow to 2^40 and no further.
func TestGreatestWeight(t *testing.T) {
	l, want := listOf(set("i", n(1))), 2
	for range 19 {
		l = listOf(loop(n(1), 32, 1, l...))
		want = min(2+33*(3+want), 1<<40)
		weighs(t, "loops", l, want)
		weighs(t, "many of them", slices.Repeat(l, 100), min(100*want, 1<<40))
	}
	if want != 1<<40 {
		t.Fatal("no weight was too great")
	}
	l = listOf(loop(n(1), 99, 1, slices.Repeat(l, 1000)...))
	weighs(t, "the greatest one", slices.Repeat(l, 1000), 1<<40)
}

// P5.1: Labels

func TestLabels(t *testing.T) {
	labels(t, "nothing", nil)
	labels(t, "no labels", parsed(t, source("", "", "i = 1 lock r { a[i] = 2 }")).Tasks[0].Body)
	for body, want := range map[string][]int{
		"if 1 label 7 { }":                                   {7},
		"while 1 max 2 label 8 { }":                          {8},
		"if 1 label 3 { } while 1 max 2 label 1 { }":         {3, 1},
		"while 1 max 2 label 3 { } if 1 label 1 { }":         {3, 1},
		"if 1 label 3 { if 1 label 2 { } } if 1 label 1 { }": {3, 2, 1},
		"if 1 label 9 { if 1 label 5 { } } else { if 1 label 7 { } if 1 label 6 { } } lock r { while 1 max 1 label 8 { i = 1 while 1 max 1 label 1 { } } } if 1 label 2 { }": {9, 5, 7, 6, 8, 1, 2},
		"if 1 label 4 { } if 1 label 4 { if 1 label 4 { } }":            {4, 4, 4},
		"if 1 label 0 { } while 1 max 1 label 2147483647 { }":           {0, 2147483647},
		"if 1 label 2 { } else { if 1 label 1 { } }":                    {2, 1},
		"lock r { if 1 label 2 { } } i = 1 lock q { if 1 label 1 { } }": {2, 1},
	} {
		labels(t, body, parsed(t, source("", "", body)).Tasks[0].Body, want...)
	}
	labels(t, "odd ones", []api.Stmt{{Kind: api.StmtIf, Label: -5}, {Kind: api.StmtWhile, Label: math.MaxInt}, {Kind: api.StmtIf}}, -5, math.MaxInt, 0)
	for _, kind := range []int{-1, 0, api.StmtSet, api.StmtStore, api.StmtLock, 6, 1<<32 + api.StmtIf} {
		labels(t, "kinds without labels", []api.Stmt{{Kind: kind, Label: 3}})
	}
}

func TestLabelsOfDeepStatements(t *testing.T) {
	for depth := 1; depth < 60; depth++ {
		last := choice(n(1), depth, nil, nil)
		var want []int
		if depth <= 20 {
			want = []int{depth}
		}
		labels(t, "an if of the depth "+strconv.Itoa(depth), locks(depth-1, last), want...)
		l := listOf(last)
		want = nil
		for d := depth - 1; d > 0; d-- {
			if l = listOf(loop(n(1), 1, d, l...)); d%2 == 0 {
				l = listOf(choice(n(1), d, nil, l[0].Then))
			}
		}
		for d := 1; d <= min(depth, 20); d++ {
			want = append(want, d)
		}
		labels(t, "ifs and whiles of the depth "+strconv.Itoa(depth), l, want...)
	}
}

// Weight and Labels against the plainest way to compute them

// random is a maker of statements of any shape.
type random struct{ *rand.Rand }

func (r random) exprs(depth int) []api.Expr {
	var list []api.Expr
	for range r.Intn(3) {
		e := api.Expr{Kind: r.Intn(6)}
		if depth > 1 {
			e.Args = r.exprs(depth - 1)
		}
		list = append(list, e)
	}
	return list
}

func (r random) stmts(depth int) []api.Stmt {
	var list []api.Stmt
	for range r.Intn(4) {
		s := api.Stmt{Kind: r.Intn(7), Index: r.exprs(3), Value: r.exprs(5), Max: r.Intn(40) - 3, Label: r.Intn(20)}
		if depth > 1 && s.Kind > api.StmtStore {
			s.Then = r.stmts(depth - 1)
			if s.Kind == api.StmtIf {
				s.Else = r.stmts(depth - 1)
			}
		}
		list = append(list, s)
	}
	return list
}

func parts(l []api.Expr, depth int) int {
	sum := 0
	for _, e := range l {
		if depth > 20 {
			return 1 << 40
		}
		sum = min(sum+1+parts(e.Args, depth+1), 1<<40)
	}
	return sum
}

func plainWeight(l []api.Stmt, depth int) int {
	sum := 0
	for _, s := range l {
		switch {
		case depth > 20:
			return 1 << 40
		case s.Kind == api.StmtSet, s.Kind == api.StmtStore:
			sum += 1 + parts(s.Index, 1) + parts(s.Value, 1)
		case s.Kind == api.StmtIf:
			sum += 2 + parts(s.Value, 1) + plainWeight(s.Then, depth+1) + plainWeight(s.Else, depth+1)
		case s.Kind == api.StmtWhile:
			times := 1
			for i := 0; i < s.Max && i < 33; i++ {
				times++
			}
			sum += 2 + times*(2+parts(s.Value, 1)+plainWeight(s.Then, depth+1))
		case s.Kind == api.StmtLock:
			sum += 2 + plainWeight(s.Then, depth+1)
		}
		sum = min(sum, 1<<40)
	}
	return sum
}

func plainLabels(l []api.Stmt, depth int) []int {
	var list []int
	for _, s := range l {
		if depth > 20 {
			return nil
		}
		if s.Kind == api.StmtIf || s.Kind == api.StmtWhile {
			list = append(list, s.Label)
		}
		list = append(append(list, plainLabels(s.Then, depth+1)...), plainLabels(s.Else, depth+1)...)
	}
	return list
}

func TestAgainstPlainWays(t *testing.T) {
	r := random{rand.New(rand.NewSource(5))}
	sizes := map[bool]int{}
	for range 2000 {
		l := r.stmts(1 + r.Intn(8))
		for range r.Intn(30) {
			l = append(r.stmts(2), choice(n(1), r.Intn(9), l, r.stmts(1)))
		}
		sizes[len(l) > 0]++
		weighs(t, "random statements", l, plainWeight(l, 1))
		labels(t, "random statements", l, plainLabels(l, 1)...)
	}
	if sizes[true] < 1000 {
		t.Errorf("only %d lists had statements", sizes[true])
	}
}

// Lists that are in themselves, or in many others

func TestWeightOfListsThatAreInThemselves(t *testing.T) {
	for _, width := range []int{1, 2, 50} {
		e := make([]api.Expr, width)
		for i := range e {
			e[i] = api.Expr{Kind: api.ExprBin, Args: e}
		}
		weighs(t, "an expression", listOf(api.Stmt{Kind: api.StmtSet, Value: e}), 1<<40)
		for kind := api.StmtIf; kind <= api.StmtLock; kind++ {
			l := make([]api.Stmt, width)
			for i := range l {
				l[i] = api.Stmt{Kind: kind, Value: e, Then: l, Else: l}
			}
			weighs(t, "statements", l, 1<<40)
		}
	}
	// A list that begins like another one, but is longer, is another one.
	l := []api.Stmt{set("i", n(1)), set("i", chain(5))}
	weighs(t, "parts of a list", []api.Stmt{lock("r", l[:1]...), lock("r", l...), lock("r", l[1:]...), lock("r", l...)}, 4*2+2+12+10+12)
	x := []api.Expr{n(1), chain(5)}
	weighs(t, "parts of expressions", listOf(set("i", api.Expr{Args: []api.Expr{{Args: x[:1]}, {Args: x}, {Args: x[1:]}}})), 1+1+2+11+10)
	// The same list at two depths: of the depth 20 in one place, and too deep in the other one.
	shared := locks(9, set("i", n(1)))
	weighs(t, "a list at two depths", append(locks(10, shared...), locks(5, shared...)...), 10*2+20+5*2+20)
	weighs(t, "a list at two depths", append(locks(5, shared...), locks(11, shared...)...), 1<<40)
	deep := api.Expr{Args: []api.Expr{tower(1, 19)}}
	weighs(t, "an expression at two depths", []api.Stmt{set("i", deep), set("i", api.Expr{Args: []api.Expr{deep}})}, 1<<40)
	// This is a tree of 3^20 statements.
	many, want := listOf(api.Stmt{Kind: api.StmtSet}), 1
	for range 19 {
		many = slices.Repeat(listOf(lock("r", many...)), 3)
		want = 3 * (2 + want)
	}
	weighs(t, "lists in many others", many, want)
}

func TestLabelsOfListsThatAreInThemselves(t *testing.T) {
	self := listOf(choice(n(1), 3, nil, nil))
	self[0].Then = self
	labels(t, "a list in itself", self, slices.Repeat([]int{3}, 20)...)
	self[0].Else = self
	labels(t, "a list in itself twice", self, slices.Repeat([]int{3}, 1<<20-1)...)
	for _, kind := range []int{0, api.StmtIf, api.StmtWhile, api.StmtLock} {
		many := make([]api.Stmt, 30)
		for i := range many {
			many[i] = api.Stmt{Kind: kind, Label: i, Then: many, Else: many}
		}
		// What it returns is not specified, but that it does.
		Labels(many)
	}
}

// Consequences

// steps carries out statements with conditions as they come, and returns how many assignments and conditions that were.
func (r random) steps(l []api.Stmt) int {
	count := 0
	for _, s := range l {
		switch s.Kind {
		case api.StmtSet, api.StmtStore:
			count++
		case api.StmtIf:
			count++
			if r.Intn(2) == 0 {
				count += r.steps(s.Then)
			} else {
				count += r.steps(s.Else)
			}
		case api.StmtWhile:
			for range s.Max {
				count++
				if r.Intn(20) == 0 {
					break
				}
				count += r.steps(s.Then)
			}
		case api.StmtLock:
			count += r.steps(s.Then)
		}
	}
	return count
}

func TestStepsAreAtMostTheWeight(t *testing.T) {
	r := random{rand.New(rand.NewSource(6))}
	for range 2000 {
		l := r.stmts(3)
		for range 3 {
			if most, n := Weight(l), r.steps(l); most < 1<<20 && n > most {
				t.Fatalf("%d steps, weight %d", n, most)
			}
		}
	}
}

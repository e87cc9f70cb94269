package print

import (
	"math"
	"math/rand"
	"reflect"
	"slices"
	"strconv"
	"strings"
	"testing"
	"timebound/api"
	"timebound/parse"
	"timebound/token"
	"unsafe"
)

func n(v int) api.Expr { return api.Expr{Kind: api.ExprNum, Num: v} }

func v(s string) api.Expr { return api.Expr{Kind: api.ExprName, Name: s} }

func at(s string, e api.Expr) api.Expr {
	return api.Expr{Kind: api.ExprIndex, Name: s, Args: one(e)}
}

func bin(op int, a, b api.Expr) api.Expr {
	return api.Expr{Kind: api.ExprBin, Op: op, Args: []api.Expr{a, b}}
}

func one(e api.Expr) []api.Expr { return []api.Expr{e} }

func set(name string, e api.Expr) api.Stmt {
	return api.Stmt{Kind: api.StmtSet, Name: name, Value: one(e)}
}

func lock(name string, l ...api.Stmt) api.Stmt {
	return api.Stmt{Kind: api.StmtLock, Name: name, Then: l}
}

func choice(e api.Expr, then, other []api.Stmt) api.Stmt {
	return api.Stmt{Kind: api.StmtIf, Value: one(e), Label: 1, Then: then, Else: other}
}

// program is a task with statements.
func program(l ...api.Stmt) api.Program {
	return api.Program{Tasks: []api.Task{{Name: "t", Period: 1, Deadline: 2, Priority: 3, Jitter: 4, Body: l}}}
}

// body is the text of program for statements with this text.
func body(lines ...string) string {
	return "task t period 1 deadline 2 priority 3 jitter 4\nbody\n" + strings.Join(append(lines, "end\n"), "\n")
}

// brief is a text as it is written in a message.
func brief(text string) string {
	if len(text) > 300 {
		return strconv.Quote(text[:300]) + ".. (" + strconv.Itoa(len(text)) + " bytes)"
	}
	return strconv.Quote(text)
}

func prints(t *testing.T, p api.Program, want string) {
	t.Helper()
	if text, e := Program(p); e != api.OK || text != want {
		t.Errorf("Program: %s, error %d, not %s", brief(text), e, brief(want))
	}
}

func fails(t *testing.T, what string, p api.Program, want api.Errno) {
	t.Helper()
	if text, e := Program(p); e != want || text != "" {
		t.Errorf("%s: %s, error %d, not error %d", what, brief(text), e, want)
	}
}

func writes(t *testing.T, e api.Expr, want string) {
	t.Helper()
	if text, f := Expr(e); f != api.OK || text != want {
		t.Errorf("Expr(%+v): %s, error %d, not %s", e, brief(text), f, brief(want))
	}
}

func refuses(t *testing.T, what string, e api.Expr, want api.Errno) {
	t.Helper()
	if text, f := Expr(e); f != want || text != "" {
		t.Errorf("%s: %s, error %d, not error %d", what, brief(text), f, want)
	}
}

// keywords are those of the grammar.
var keywords = strings.Fields("resource shared task period deadline priority jitter input var array mode never body end if else while max label lock")

// noNames are texts that are no names or keywords.
var noNames = append([]string{"", " ", "A", "aB", "1", "1a", "_", "a_", "a b", " a", "a ", "a\n", "a[", "-", "(", "ä", "aä", "a\x00", "\xff", "abcdefghijklm", strings.Repeat("a", 1<<16)}, keywords...)

// names are names that are like others that are none.
var names = []string{"a", "z", "a0", "abcdefghijkl", "z99999999999", "ends", "iff", "i", "whil", "bodyend", "nevermore", "max1", "lab", "elseif"}

// P4.1: texts of expressions

func TestNumbers(t *testing.T) {
	for number, want := range map[int]string{0: "0", 7: "7", 1000000: "1000000", greatest: "2147483647", -1: "(-1)", -90: "(-90)", -greatest: "(-2147483647)"} {
		writes(t, n(number), want)
	}
	for _, number := range []int{greatest + 1, -greatest - 1, 1 << 32, 1<<32 + 1, -1 << 32, math.MaxInt, math.MinInt, math.MinInt + 1} {
		refuses(t, strconv.Itoa(number), n(number), api.ErrForm)
		refuses(t, "a["+strconv.Itoa(number)+"]", at("a", n(number)), api.ErrForm)
	}
}

func TestNames(t *testing.T) {
	for _, s := range names {
		writes(t, v(s), s)
		writes(t, at(s, v(s)), s+"["+s+"]")
	}
	for _, s := range noNames {
		refuses(t, "the name "+brief(s), v(s), api.ErrForm)
		refuses(t, "the array "+brief(s), at(s, n(1)), api.ErrForm)
	}
}

func TestSigns(t *testing.T) {
	for i, sign := range strings.Fields("+ - * / % & | ^ << >> < <= == !=") {
		writes(t, bin(api.Add+i, v("a"), n(2)), "(a "+sign+" 2)")
	}
	for _, op := range []int{0, 15, 16, -1, 1 << 32, 1<<32 + 1, math.MaxInt, math.MinInt} {
		refuses(t, "operator "+strconv.Itoa(op), bin(op, n(1), n(2)), api.ErrForm)
	}
}

func TestExpressions(t *testing.T) {
	writes(t, at("a", n(-2)), "a[(-2)]")
	writes(t, at("a", at("b", v("c"))), "a[b[c]]")
	writes(t, at("a", bin(api.Add, v("i"), n(1))), "a[(i + 1)]")
	writes(t, bin(api.Sub, n(0), v("x")), "(0 - x)")
	writes(t, bin(api.Sub, n(0), n(5)), "(0 - 5)")
	writes(t, bin(api.Sub, v("a"), n(-5)), "(a - (-5))")
	writes(t, bin(api.Sub, bin(api.Sub, v("a"), v("b")), v("c")), "((a - b) - c)")
	writes(t, bin(api.Sub, v("a"), bin(api.Sub, v("b"), v("c"))), "(a - (b - c))")
	writes(t, bin(api.Eq, bin(api.Lt, at("a", n(0)), n(-1)), bin(api.Mul, v("b"), bin(api.Or, n(3), v("c")))), "((a[0] < (-1)) == (b * (3 | c)))")
}

// P4.1: errors

func TestShapesOfExpressions(t *testing.T) {
	two := []api.Expr{n(1), n(2)}
	for what, e := range map[string]api.Expr{
		"nothing": {}, "kind -1": {Kind: -1}, "kind 5": {Kind: 5}, "kind 2^32 + 1": {Kind: 1<<32 + 1}, "the greatest kind": {Kind: math.MaxInt}, "the least kind": {Kind: math.MinInt},
		"no kind, a name": {Name: "a"}, "kind 5, a number": {Kind: 5, Num: 1},
		"a number's name":       {Kind: api.ExprNum, Num: 1, Name: "a"},
		"a number's operator":   {Kind: api.ExprNum, Num: 1, Op: api.Add},
		"a number's argument":   {Kind: api.ExprNum, Num: 1, Args: one(n(1))},
		"a name's number":       {Kind: api.ExprName, Name: "a", Num: -1},
		"a name's operator":     {Kind: api.ExprName, Name: "a", Op: api.Ne},
		"a name's argument":     {Kind: api.ExprName, Name: "a", Args: one(n(1))},
		"an index's number":     {Kind: api.ExprIndex, Name: "a", Num: 1, Args: one(n(1))},
		"an index's operator":   {Kind: api.ExprIndex, Name: "a", Op: -1, Args: one(n(1))},
		"an index of nothing":   {Kind: api.ExprIndex, Name: "a"},
		"an index of two":       {Kind: api.ExprIndex, Name: "a", Args: two},
		"an operator's name":    {Kind: api.ExprBin, Op: api.Add, Name: "a", Args: two},
		"an operator's number":  {Kind: api.ExprBin, Op: api.Add, Num: 1, Args: two},
		"an operator's nothing": {Kind: api.ExprBin, Op: api.Add},
		"an operator's one":     {Kind: api.ExprBin, Op: api.Add, Args: one(n(1))},
		"an operator's three":   {Kind: api.ExprBin, Op: api.Add, Args: []api.Expr{n(1), n(2), n(3)}},
	} {
		refuses(t, what, e, api.ErrForm)
		refuses(t, what+" in an index", at("a", e), api.ErrForm)
		refuses(t, what+" at the left", bin(api.Add, e, n(1)), api.ErrForm)
		refuses(t, what+" at the right", bin(api.Add, n(1), e), api.ErrForm)
		refuses(t, what+" within six others", chain(6, e), api.ErrForm)
		refuses(t, what+" beside a part that is too deep", bin(api.Add, e, chain(8, n(1))), api.ErrLimit)
		fails(t, what+" in a statement", program(set("i", e)), api.ErrForm)
	}
}

// chain returns an expression within so many others.
func chain(others int, e api.Expr) api.Expr {
	for i := range others {
		switch i % 3 {
		case 0:
			e = at("a", e)
		case 1:
			e = bin(api.Add, e, n(1))
		case 2:
			e = bin(api.Sub, n(1), e)
		}
	}
	return e
}

func TestDepthOfExpressions(t *testing.T) {
	writes(t, chain(7, v("x")), "a[(1 - (a[(1 - (a[x] + 1))] + 1))]")
	for others := 8; others < 40; others++ {
		refuses(t, strconv.Itoa(others)+" others", chain(others, v("x")), api.ErrLimit)
	}
	// Depths count for expressions of any shape, and this error comes first.
	refuses(t, "an odd one at depth 9", chain(8, api.Expr{}), api.ErrLimit)
	refuses(t, "an odd one at depth 8", chain(7, api.Expr{}), api.ErrForm)
	refuses(t, "an odd one around", bin(15, chain(8, n(1)), n(1)), api.ErrLimit)
	refuses(t, "a number around", api.Expr{Kind: api.ExprNum, Args: one(chain(7, n(1)))}, api.ErrLimit)
	refuses(t, "the last of many", api.Expr{Args: append(make([]api.Expr, 50), chain(7, n(1)))}, api.ErrLimit)
	refuses(t, "the last of many, eight deep", api.Expr{Args: append(make([]api.Expr, 50), chain(6, n(1)))}, api.ErrForm)
	odd := api.Expr{}
	for depth := 2; depth < 20; depth++ {
		odd = api.Expr{Args: []api.Expr{{}, odd}}
		want := api.ErrForm
		if depth > api.MaxDepth {
			want = api.ErrLimit
		}
		refuses(t, "odd ones of depth "+strconv.Itoa(depth), odd, want)
	}
	whole := v("x")
	for range 7 {
		whole = bin(api.Add, whole, whole)
	}
	if text, e := Expr(whole); e != api.OK || len(text) != 128+127*5 {
		t.Errorf("a whole tree: %d bytes, error %d", len(text), e)
	}
	refuses(t, "a whole tree of depth 9", bin(api.Add, whole, whole), api.ErrLimit)
}

// P4.2: texts of programs

func TestDeclarations(t *testing.T) {
	prints(t, api.Program{}, "")
	prints(t, api.Program{Resources: []string{}, Shared: []api.Shared{}, Tasks: []api.Task{}}, "")
	prints(t, api.Program{Resources: []string{"r"}}, "resource r\n")
	prints(t, api.Program{Resources: []string{"r", "q", "r"}, Shared: []api.Shared{{Array: api.Array{Name: "a"}, Resource: "x"}, {Array: api.Array{Name: "b", Size: greatest}, Resource: "r"}}},
		"resource r\nresource q\nresource r\nshared a 0 x\nshared b 2147483647 r\n")
	prints(t, api.Program{Tasks: []api.Task{{Name: "t"}, {Name: "t", Period: greatest, Deadline: greatest, Priority: greatest, Jitter: greatest}}},
		"task t period 0 deadline 0 priority 0 jitter 0\nbody\nend\ntask t period 2147483647 deadline 2147483647 priority 2147483647 jitter 2147483647\nbody\nend\n")
	prints(t, api.Program{Tasks: []api.Task{{
		Name: "t", Period: 1, Deadline: 2, Priority: 3, Jitter: 4,
		Inputs: []api.Input{{Name: "a", Lo: 1, Hi: 2}, {Name: "b", Lo: -greatest, Hi: -1}, {Name: "c", Lo: greatest, Hi: greatest}},
		Vars:   []string{"d", "e"},
		Arrays: []api.Array{{Name: "f", Size: 8}, {Name: "g", Size: 0}},
		Modes:  []api.Mode{{Name: "fast", Input: "a", Lo: -2, Hi: 7}, {Name: "slow", Input: "zz", Lo: 0, Hi: -9}},
		Claims: []api.Claim{{A: 1, B: 2}, {A: greatest}},
		Body:   []api.Stmt{set("d", n(1))},
	}}}, `task t period 1 deadline 2 priority 3 jitter 4
input a 1 2
input b -2147483647 -1
input c 2147483647 2147483647
var d
var e
array f 8
array g 0
mode fast a -2 7
mode slow zz 0 -9
never 1 2
never 2147483647 0
body
  d = 1
end
`)
}

func TestStatements(t *testing.T) {
	prints(t, program(), body())
	prints(t, program(set("i", bin(api.Add, v("i"), n(1)))), body("  i = (i + 1)"))
	prints(t, program(set("i", n(-1)), set("j", at("a", n(-2)))), body("  i = (-1)", "  j = a[(-2)]"))
	prints(t, program(api.Stmt{Kind: api.StmtStore, Name: "a", Index: one(n(-1)), Value: one(v("b"))}), body("  a[(-1)] = b"))
	prints(t, program(api.Stmt{Kind: api.StmtStore, Name: "a", Index: one(bin(api.Shl, v("i"), n(1))), Value: one(bin(api.Le, v("b"), n(2)))}), body("  a[(i << 1)] = (b <= 2)"))
	prints(t, program(lock("r")), body("  lock r {", "  }"))
	prints(t, program(lock("r", set("i", n(1)), set("j", n(2))), set("k", n(3))), body("  lock r {", "    i = 1", "    j = 2", "  }", "  k = 3"))
	prints(t, program(api.Stmt{Kind: api.StmtWhile, Value: one(n(-1)), Max: 0, Label: greatest}), body("  while (-1) max 0 label 2147483647 {", "  }"))
	prints(t, program(api.Stmt{Kind: api.StmtWhile, Value: one(bin(api.Lt, v("i"), n(9))), Max: greatest, Label: 2, Then: []api.Stmt{set("i", n(1))}}), body("  while (i < 9) max 2147483647 label 2 {", "    i = 1", "  }"))
	inner := []api.Stmt{set("i", n(1))}
	prints(t, program(choice(v("x"), nil, nil)), body("  if x label 1 {", "  }"))
	prints(t, program(choice(v("x"), inner, []api.Stmt{})), body("  if x label 1 {", "    i = 1", "  }"))
	prints(t, program(choice(v("x"), nil, inner)), body("  if x label 1 {", "  } else {", "    i = 1", "  }"))
	prints(t, program(choice(v("x"), inner, inner), set("k", n(3))), body("  if x label 1 {", "    i = 1", "  } else {", "    i = 1", "  }", "  k = 3"))
	prints(t, program(api.Stmt{Kind: api.StmtIf, Value: one(n(1))}), body("  if 1 label 0 {", "  }"))
	prints(t, program(lock("r", choice(v("x"), []api.Stmt{lock("q", inner...)}, []api.Stmt{choice(n(-3), nil, inner)}))),
		body("  lock r {", "    if x label 1 {", "      lock q {", "        i = 1", "      }", "    } else {", "      if (-3) label 1 {", "      } else {", "        i = 1", "      }", "    }", "  }"))
}

// P4.2: what is not printable

func TestNamesOfPrograms(t *testing.T) {
	for what, with := range map[string]func(s string) api.Program{
		"resource": func(s string) api.Program { return api.Program{Resources: []string{"r", s}} },
		"shared": func(s string) api.Program {
			return api.Program{Shared: []api.Shared{{Array: api.Array{Name: s}, Resource: "r"}}}
		},
		"resource of shared": func(s string) api.Program {
			return api.Program{Shared: []api.Shared{{Array: api.Array{Name: "a"}, Resource: s}}}
		},
		"task": func(s string) api.Program { return api.Program{Tasks: []api.Task{{Name: "t"}, {Name: s}}} },
		"input": func(s string) api.Program {
			return api.Program{Tasks: []api.Task{{Name: "t", Inputs: []api.Input{{Name: s}}}}}
		},
		"var": func(s string) api.Program { return api.Program{Tasks: []api.Task{{Name: "t", Vars: []string{"x", s}}}} },
		"array": func(s string) api.Program {
			return api.Program{Tasks: []api.Task{{Name: "t", Arrays: []api.Array{{Name: s}}}}}
		},
		"mode": func(s string) api.Program {
			return api.Program{Tasks: []api.Task{{Name: "t", Modes: []api.Mode{{Name: s, Input: "x"}}}}}
		},
		"input of a mode": func(s string) api.Program {
			return api.Program{Tasks: []api.Task{{Name: "t", Modes: []api.Mode{{Name: "m", Input: s}}}}}
		},
		"variable that is set": func(s string) api.Program { return program(set(s, n(1))) },
		"array that is set": func(s string) api.Program {
			return program(api.Stmt{Kind: api.StmtStore, Name: s, Index: one(n(1)), Value: one(n(1))})
		},
		"lock":             func(s string) api.Program { return program(lock(s)) },
		"value":            func(s string) api.Program { return program(set("i", v(s))) },
		"array of a value": func(s string) api.Program { return program(choice(at(s, n(1)), nil, nil)) },
	} {
		for _, s := range names {
			if text, e := Program(with(s)); e != api.OK || !strings.Contains(text, s) {
				t.Errorf("%s %s: %s, error %d", what, s, brief(text), e)
			}
		}
		for _, s := range noNames {
			fails(t, what+" "+brief(s), with(s), api.ErrForm)
		}
	}
}

func TestNumbersOfPrograms(t *testing.T) {
	task := func(change func(t *api.Task)) api.Program {
		p := program()
		change(&p.Tasks[0])
		return p
	}
	unsigned := map[string]func(n int) api.Program{
		"shared": func(n int) api.Program {
			return api.Program{Shared: []api.Shared{{Array: api.Array{Name: "a", Size: n}, Resource: "r"}}}
		},
		"period":   func(n int) api.Program { return task(func(t *api.Task) { t.Period = n }) },
		"deadline": func(n int) api.Program { return task(func(t *api.Task) { t.Deadline = n }) },
		"priority": func(n int) api.Program { return task(func(t *api.Task) { t.Priority = n }) },
		"jitter":   func(n int) api.Program { return task(func(t *api.Task) { t.Jitter = n }) },
		"array": func(n int) api.Program {
			return task(func(t *api.Task) { t.Arrays = []api.Array{{Name: "a", Size: n}} })
		},
		"claim, A": func(n int) api.Program { return task(func(t *api.Task) { t.Claims = []api.Claim{{A: n, B: 1}} }) },
		"claim, B": func(n int) api.Program { return task(func(t *api.Task) { t.Claims = []api.Claim{{A: 1, B: n}} }) },
		"if":       func(n int) api.Program { return program(api.Stmt{Kind: api.StmtIf, Value: one(v("a")), Label: n}) },
		"while": func(n int) api.Program {
			return program(api.Stmt{Kind: api.StmtWhile, Value: one(v("a")), Max: 1, Label: n})
		},
		"while's max": func(n int) api.Program {
			return program(api.Stmt{Kind: api.StmtWhile, Value: one(v("a")), Max: n, Label: 1})
		},
	}
	signed := map[string]func(n int) api.Program{
		"input, Lo": func(n int) api.Program { return task(func(t *api.Task) { t.Inputs = []api.Input{{Name: "a", Lo: n}} }) },
		"input, Hi": func(n int) api.Program { return task(func(t *api.Task) { t.Inputs = []api.Input{{Name: "a", Hi: n}} }) },
		"mode, Lo": func(n int) api.Program {
			return task(func(t *api.Task) { t.Modes = []api.Mode{{Name: "m", Input: "a", Lo: n}} })
		},
		"mode, Hi": func(n int) api.Program {
			return task(func(t *api.Task) { t.Modes = []api.Mode{{Name: "m", Input: "a", Hi: n}} })
		},
		"value": func(v int) api.Program { return program(set("i", n(v))) },
		"index": func(v int) api.Program {
			return program(api.Stmt{Kind: api.StmtStore, Name: "a", Index: one(n(v)), Value: one(n(1))})
		},
	}
	check := func(what string, with func(n int) api.Program, number int, right bool) {
		text, e := Program(with(number))
		if !right {
			fails(t, what+" "+strconv.Itoa(number), with(number), api.ErrForm)
		} else if e != api.OK || !strings.Contains(text, strconv.Itoa(number)) {
			t.Errorf("%s %d: %s, error %d", what, number, brief(text), e)
		}
	}
	for _, number := range []int{0, 77, greatest, -1, -77, -greatest, greatest + 1, -greatest - 1, 1 << 32, 1<<32 + 1, -1 << 32, math.MaxInt, math.MinInt, math.MinInt + 1} {
		for what, with := range unsigned {
			check(what, with, number, 0 <= number && number <= greatest)
		}
		for what, with := range signed {
			check(what, with, number, -greatest <= number && number <= greatest)
		}
	}
}

// kinds is a statement of each kind, and which fields it has.
var kinds = []struct {
	stmt   api.Stmt
	fields string
}{
	{api.Stmt{Kind: api.StmtSet, Name: "i", Value: one(n(1))}, "Name Value"},
	{api.Stmt{Kind: api.StmtStore, Name: "a", Index: one(n(1)), Value: one(n(1))}, "Name Index Value"},
	{api.Stmt{Kind: api.StmtIf, Value: one(n(1)), Label: 1, Then: []api.Stmt{set("i", n(1))}, Else: []api.Stmt{set("i", n(1))}}, "Value Label Then Else"},
	{api.Stmt{Kind: api.StmtWhile, Value: one(n(1)), Max: 1, Label: 1, Then: []api.Stmt{set("i", n(1))}}, "Value Max Label Then"},
	{api.Stmt{Kind: api.StmtLock, Name: "r", Then: []api.Stmt{set("i", n(1))}}, "Name Then"},
}

func TestShapesOfStatements(t *testing.T) {
	odd := []api.Stmt{{}, {Kind: -1}, {Kind: 6}, {Kind: 1<<32 + 1, Name: "i", Value: one(n(1))}, {Kind: math.MinInt}, {Kind: math.MaxInt}, {Name: "i", Value: one(n(1))}}
	for _, k := range kinds {
		if _, e := Program(program(k.stmt)); e != api.OK {
			t.Errorf("%+v: error %d", k.stmt, e)
		}
		has := strings.Fields(k.fields)
		for field, change := range map[string]func(s *api.Stmt){
			"Name":  func(s *api.Stmt) { s.Name = "x" },
			"Index": func(s *api.Stmt) { s.Index = one(n(2)) },
			"Value": func(s *api.Stmt) { s.Value = one(n(2)) },
			"Max":   func(s *api.Stmt) { s.Max = 2 },
			"Label": func(s *api.Stmt) { s.Label = 2 },
			"Then":  func(s *api.Stmt) { s.Then = []api.Stmt{set("k", n(1))} },
			"Else":  func(s *api.Stmt) { s.Else = []api.Stmt{set("k", n(1))} },
		} {
			s := k.stmt
			change(&s)
			if !slices.Contains(has, field) {
				odd = append(odd, s)
			} else if _, e := Program(program(s)); e != api.OK {
				t.Errorf("%+v: error %d", s, e)
			}
		}
		odd = append(odd, changed(k.stmt, has)...)
	}
	for _, s := range odd {
		what := brief(strconv.Itoa(s.Kind) + " " + s.Name)
		fails(t, what, program(s), api.ErrForm)
		fails(t, what+" behind another", program(set("i", n(1)), s), api.ErrForm)
		fails(t, what+" in a lock", program(lock("r", set("i", n(1)), s)), api.ErrForm)
		fails(t, what+" in an if", program(choice(n(1), []api.Stmt{s}, nil)), api.ErrForm)
		fails(t, what+" in an else", program(choice(n(1), nil, []api.Stmt{s})), api.ErrForm)
		fails(t, what+" in a while", program(api.Stmt{Kind: api.StmtWhile, Value: one(n(1)), Then: []api.Stmt{s}}), api.ErrForm)
		p := program()
		p.Tasks = append(p.Tasks, program(s).Tasks...)
		fails(t, what+" in the second task", p, api.ErrForm)
	}
}

// changed returns a statement with other things in the fields that it has: not as they must be.
func changed(s api.Stmt, has []string) []api.Stmt {
	var list []api.Stmt
	add := func(field string, change func(s *api.Stmt)) {
		if slices.Contains(has, field) {
			c := s
			change(&c)
			list = append(list, c)
		}
	}
	add("Name", func(s *api.Stmt) { s.Name = "" })
	for _, l := range [][]api.Expr{nil, {n(1), n(1)}, {{}}, {n(1 << 31)}, {v("end")}, {at("a", v("A"))}, {chain(7, api.Expr{})}} {
		add("Index", func(s *api.Stmt) { s.Index = l })
		add("Value", func(s *api.Stmt) { s.Value = l })
	}
	for _, n := range []int{-1, 1 << 31, math.MinInt} {
		add("Max", func(s *api.Stmt) { s.Max = n })
		add("Label", func(s *api.Stmt) { s.Label = n })
	}
	return list
}

// P4.2: limits

// nest returns a statement within so many others: the last block of each.
func nest(others int, s api.Stmt) api.Stmt {
	for i := range others {
		switch i % 4 {
		case 0:
			s = lock("r", set("i", n(1)), s)
		case 1:
			s = choice(v("x"), []api.Stmt{s}, nil)
		case 2:
			s = choice(v("x"), nil, []api.Stmt{s})
		case 3:
			s = api.Stmt{Kind: api.StmtWhile, Value: one(v("x")), Then: []api.Stmt{s}}
		}
	}
	return s
}

func TestDepthOfStatements(t *testing.T) {
	for _, k := range kinds {
		s := k.stmt
		s.Then, s.Else = nil, nil
		for others := range 30 {
			p := program(nest(others, s))
			if others >= api.MaxDepth {
				fails(t, "a statement of kind "+strconv.Itoa(s.Kind)+" within "+strconv.Itoa(others), p, api.ErrLimit)
			} else if _, e := Program(p); e != api.OK {
				t.Errorf("a statement of kind %d within %d: error %d", s.Kind, others, e)
			}
		}
	}
	p := program()
	p.Tasks = append(p.Tasks, program(nest(8, set("i", n(1)))).Tasks...)
	fails(t, "the second task", p, api.ErrLimit)
}

func TestDepthOfExpressionsOfStatements(t *testing.T) {
	for others := range 30 {
		e := one(chain(others, n(1)))
		for what, s := range map[string]api.Stmt{
			"a value":           {Kind: api.StmtSet, Name: "i", Value: e},
			"an index":          {Kind: api.StmtStore, Name: "a", Index: e, Value: one(n(1))},
			"a stored value":    {Kind: api.StmtStore, Name: "a", Index: one(n(1)), Value: e},
			"an if's value":     {Kind: api.StmtIf, Value: e},
			"a while's value":   {Kind: api.StmtWhile, Value: e},
			"one eight deep":    nest(7, api.Stmt{Kind: api.StmtSet, Name: "i", Value: e}),
			"one of an else":    choice(n(1), nil, []api.Stmt{{Kind: api.StmtSet, Name: "i", Value: e}}),
			"one behind others": lock("r", set("i", n(1)), lock("q"), api.Stmt{Kind: api.StmtSet, Name: "i", Value: e}),
		} {
			if others >= api.MaxDepth {
				fails(t, what+" within "+strconv.Itoa(others), program(s), api.ErrLimit)
			} else if _, f := Program(program(s)); f != api.OK {
				t.Errorf("%s within %d: error %d", what, others, f)
			}
		}
	}
}

// TestHowFarItIsLooked puts what is not printable at each depth: from 21 on it is not seen.
func TestHowFarItIsLooked(t *testing.T) {
	for depth := 1; depth <= 30; depth++ {
		want := api.ErrForm
		if depth > 20 {
			want = api.ErrLimit
		}
		at := " at depth " + strconv.Itoa(depth)
		fails(t, "a statement"+at, program(nest(depth-1, api.Stmt{})), want)
		fails(t, "a name"+at, program(nest(depth-1, lock("if"))), want)
		fails(t, "an expression of a statement"+at, program(nest(depth-1, set("i", api.Expr{}))), want)
		fails(t, "an index of a statement"+at, program(nest(depth-1, api.Stmt{Kind: api.StmtStore, Name: "a", Index: one(v("A")), Value: one(n(1))})), want)
		fails(t, "an expression"+at, program(set("i", chain(depth-1, api.Expr{}))), want)
		fails(t, "a condition"+at, program(nest(7, choice(chain(depth-1, n(1<<31)), nil, nil))), want)
		fails(t, "an expression of a statement of depth 20"+at, program(nest(19, set("i", chain(depth-1, v("A"))))), want)
	}
	fails(t, "an expression of a statement that is not looked at", program(nest(20, set("i", api.Expr{}))), api.ErrLimit)
	// Errors of form come first, wherever they are.
	deepest := nest(25, set("i", chain(25, n(1))))
	fails(t, "a statement behind one that is too deep", program(deepest, api.Stmt{}), api.ErrForm)
	fails(t, "a statement before one that is too deep", program(api.Stmt{}, deepest), api.ErrForm)
	p := program(deepest)
	p.Tasks = append(p.Tasks, api.Task{Name: "u", Claims: []api.Claim{{A: -1}}})
	fails(t, "a task behind one that is too deep", p, api.ErrForm)
	p = program(slices.Repeat([]api.Stmt{set("abcdefghijkl", n(1))}, api.MaxSource)...)
	p.Tasks[0].Body = append(p.Tasks[0].Body, api.Stmt{})
	fails(t, "a statement behind many others", p, api.ErrForm)
}

func TestMaxSource(t *testing.T) {
	// Each of these lines has 16 bytes.
	const count = api.MaxSource / 16
	list := slices.Repeat([]string{"abcdef"}, count)
	if text, e := Program(api.Program{Resources: list}); e != api.OK || text != strings.Repeat("resource abcdef\n", count) || len(text) != api.MaxSource {
		t.Errorf("%d bytes: error %d", len(text), e)
	}
	list[count/2] = "abcdefg"
	fails(t, "a byte more", api.Program{Resources: list}, api.ErrLimit)
	fails(t, "many more", api.Program{Resources: slices.Repeat(list, 20)}, api.ErrLimit)
	// The last byte is that of the last line.
	rest := len(body())
	lines := (api.MaxSource - rest) / len("  i = 1\n")
	stmts := slices.Repeat([]api.Stmt{set("i", n(1))}, lines)
	longer := (api.MaxSource - rest) % len("  i = 1\n")
	stmts[0].Name += strings.Repeat("i", longer)
	if text, e := Program(program(stmts...)); e != api.OK || len(text) != api.MaxSource {
		t.Errorf("a body of %d bytes: error %d", len(text), e)
	}
	stmts[lines-1].Name = "ii"
	fails(t, "a body with a byte more", program(stmts...), api.ErrLimit)
}

// Lists that are in themselves, or in many others, stand for trees that are endless or far too large to be gone through.

func TestListsThatContainThemselves(t *testing.T) {
	for _, width := range []int{1, 2, 3, 100} {
		l := make([]api.Expr, width)
		for i := range l {
			l[i] = api.Expr{Kind: api.ExprBin, Op: api.Add, Args: l}
		}
		refuses(t, "an expression", l[0], api.ErrLimit)
		want := api.ErrForm
		if width == 2 {
			want = api.ErrLimit
		}
		fails(t, "an expression of a statement", program(set("i", l[0])), want)
		for kind := range 7 {
			b := make([]api.Stmt, width)
			for i := range b {
				b[i] = api.Stmt{Kind: kind, Value: one(n(1)), Then: b, Else: b}
			}
			want := api.ErrForm
			if kind == api.StmtIf {
				want = api.ErrLimit
			}
			fails(t, "statements of kind "+strconv.Itoa(kind), program(b...), want)
			fails(t, "an if", program(choice(n(1), b, b)), want)
			if width == 2 {
				b[1].Value = one(l[1])
				fails(t, "a statement and its expression", program(b...), want)
			}
		}
	}
}

// TestPartsOfLists has lists that begin at the same place, but do not end there.
func TestPartsOfLists(t *testing.T) {
	add := func(l []api.Expr) api.Expr {
		return bin(api.Add, api.Expr{Kind: api.ExprIndex, Name: "a", Args: l[:1]}, api.Expr{Kind: api.ExprBin, Op: api.Mul, Args: l[:2]})
	}
	writes(t, add([]api.Expr{n(1), n(2)}), "(a[1] + (1 * 2))")
	refuses(t, "an odd one", add([]api.Expr{n(1), {}}), api.ErrForm)
	refuses(t, "a deep one", add([]api.Expr{n(1), chain(6, n(1))}), api.ErrLimit)
	fails(t, "a statement's odd one", program(set("i", add([]api.Expr{n(1), {}}))), api.ErrForm)
	l := []api.Stmt{set("i", n(1)), set("j", n(2)), {}}
	prints(t, program(choice(v("x"), l[:1], l[:2])), body("  if x label 1 {", "    i = 1", "  } else {", "    i = 1", "    j = 2", "  }"))
	fails(t, "an odd statement", program(choice(v("x"), l[:1], l[:3])), api.ErrForm)
	fails(t, "an odd statement before", program(choice(v("x"), l[:3], l[:1])), api.ErrForm)
}

func TestListsInManyOthers(t *testing.T) {
	wide := slices.Repeat([]api.Expr{{Kind: api.ExprNum}}, 1000)
	list := slices.Repeat([]api.Stmt{set("i", n(1))}, 1000)
	for depth := 2; depth <= 30; depth++ {
		wide = slices.Repeat([]api.Expr{{Kind: api.ExprNum, Args: wide}}, 1000)
		list = slices.Repeat([]api.Stmt{choice(n(1), list, list)}, 1000)
		want := api.ErrForm
		if depth >= api.MaxDepth {
			want = api.ErrLimit
		}
		refuses(t, "expressions of depth "+strconv.Itoa(depth+1), api.Expr{Args: wide}, want)
		fails(t, "statements of depth "+strconv.Itoa(depth), program(list...), api.ErrLimit)
	}
	tasks := slices.Repeat([]api.Task{{Name: "t", Body: list[:1]}}, 1000)
	fails(t, "bodies", api.Program{Tasks: tasks}, api.ErrLimit)
}

// Rules and consequences

// random is a maker of programs that are printable and not too deep.
type random struct{ *rand.Rand }

func (r random) name() string { return names[r.Intn(len(names))] }

func (r random) unsigned() int { return []int{0, 1, 9, r.Intn(1000), greatest}[r.Intn(5)] }

func (r random) signed() int { return r.unsigned() * (1 - 2*r.Intn(2)) }

func (r random) expr(depth int) api.Expr {
	switch kind := r.Intn(5); {
	case depth == 1 && kind > 1 || kind == 0:
		return n(r.signed())
	case kind == 1:
		return v(r.name())
	case kind == 2:
		return at(r.name(), r.expr(depth-1))
	}
	return bin(api.Add+r.Intn(14), r.expr(depth-1), r.expr(depth-1))
}

func (r random) stmts(depth, most int) []api.Stmt {
	var list []api.Stmt
	for range r.Intn(most + 1) {
		s := api.Stmt{Kind: 1 + r.Intn(5)}
		if depth == 1 {
			s.Kind = 1 + r.Intn(2)
		}
		switch s.Kind {
		case api.StmtSet:
			s.Name, s.Value = r.name(), one(r.expr(1+r.Intn(8)))
		case api.StmtStore:
			s.Name, s.Index, s.Value = r.name(), one(r.expr(1+r.Intn(4))), one(r.expr(1+r.Intn(4)))
		case api.StmtIf:
			s.Value, s.Label, s.Then, s.Else = one(r.expr(3)), r.unsigned(), r.stmts(depth-1, 2), r.stmts(depth-1, 2)
		case api.StmtWhile:
			s.Value, s.Max, s.Label, s.Then = one(r.expr(3)), r.unsigned(), r.unsigned(), r.stmts(depth-1, 2)
		case api.StmtLock:
			s.Name, s.Then = r.name(), r.stmts(depth-1, 2)
		}
		list = append(list, s)
	}
	return list
}

func (r random) program() api.Program {
	var p api.Program
	for range r.Intn(3) {
		p.Resources = append(p.Resources, r.name())
	}
	for range r.Intn(3) {
		p.Shared = append(p.Shared, api.Shared{Array: api.Array{Name: r.name(), Size: r.unsigned()}, Resource: r.name()})
	}
	for range r.Intn(3) {
		t := api.Task{Name: r.name(), Period: r.unsigned(), Deadline: r.unsigned(), Priority: r.unsigned(), Jitter: r.unsigned()}
		for range r.Intn(3) {
			t.Inputs = append(t.Inputs, api.Input{Name: r.name(), Lo: r.signed(), Hi: r.signed()})
		}
		for range r.Intn(3) {
			t.Vars = append(t.Vars, r.name())
		}
		for range r.Intn(3) {
			t.Arrays = append(t.Arrays, api.Array{Name: r.name(), Size: r.unsigned()})
		}
		for range r.Intn(3) {
			t.Modes = append(t.Modes, api.Mode{Name: r.name(), Input: r.name(), Lo: r.signed(), Hi: r.signed()})
		}
		for range r.Intn(3) {
			t.Claims = append(t.Claims, api.Claim{A: r.unsigned(), B: r.unsigned()})
		}
		t.Body = r.stmts(8, 4)
		p.Tasks = append(p.Tasks, t)
	}
	return p
}

// lines returns how many lines statements have.
func lines(list []api.Stmt) int {
	count := len(list)
	for _, s := range list {
		if s.Kind >= api.StmtIf {
			count++
		}
		if len(s.Else) > 0 {
			count++
		}
		count += lines(s.Then) + lines(s.Else)
	}
	return count
}

// laid compares a text with the layout of the chapter.
func laid(t *testing.T, text string, p api.Program) {
	t.Helper()
	want := len(p.Resources) + len(p.Shared)
	for _, x := range p.Tasks {
		want += 3 + len(x.Inputs) + len(x.Vars) + len(x.Arrays) + len(x.Modes) + len(x.Claims) + lines(x.Body)
	}
	within := 0
	rest := text
	for rest != "" {
		line, behind, ended := strings.Cut(rest, "\n")
		rest = behind
		want--
		word := strings.TrimLeft(line, " ")
		if word == "end" || strings.HasPrefix(word, "}") {
			within--
		}
		if !ended || len(line)-len(word) != 2*within || strings.Contains(word, "  ") || strings.HasSuffix(word, " ") {
			t.Fatalf("the line %q, within %d", line, within)
		}
		if word == "body" || strings.HasSuffix(word, "{") {
			within++
		}
	}
	if want != 0 || within != 0 {
		t.Fatalf("%d lines too few, %d blocks not ended: %s", want, within, brief(text))
	}
}

func TestParseOfPrintIsTheProgram(t *testing.T) {
	r := random{rand.New(rand.NewSource(1))}
	count := 0
	for range 4000 {
		p := r.program()
		text, e := Program(p)
		if e == api.ErrLimit {
			continue
		}
		count++
		q, line, f := parse.Program(text)
		if e != api.OK || f != api.OK || line != 0 || !reflect.DeepEqual(q, p) {
			t.Fatalf("%+v: error %d, %s: error %d in line %d, %+v", p, e, brief(text), f, line, q)
		}
		laid(t, text, p)
		prints(t, q, text)
	}
	if count < 1000 {
		t.Errorf("%d programs that are short enough", count)
	}
}

func TestParseOfPrintIsTheExpression(t *testing.T) {
	r := random{rand.New(rand.NewSource(2))}
	for range 20000 {
		e := r.expr(1 + r.Intn(8))
		text, f := Expr(e)
		if f != api.OK {
			t.Fatalf("%+v: error %d", e, f)
		}
		l, _, f := token.Scan(text)
		if f != api.OK {
			t.Fatalf("%s: error %d", text, f)
		}
		if q, size, f := parse.Expr(l); f != api.OK || size != len(l) || !reflect.DeepEqual(q, e) {
			t.Fatalf("%+v: %s is %+v, with %d tokens, error %d", e, text, q, size, f)
		}
	}
}

// TestPrintOfParse has texts that are laid out in other ways.
func TestPrintOfParse(t *testing.T) {
	for text, want := range map[string]string{
		"resource   r shared a 007 r":                            "resource r\nshared a 7 r\n",
		body("x = - 5"):                                          body("  x = (-5)"),
		body("x = --5 y = -z"):                                   body("  x = (0 - (-5))", "  y = (0 - z)"),
		body("x = (((1)))+2*3<a[-1]"):                            body("  x = ((1 + (2 * 3)) < a[(-1)])"),
		body("x = a - b - c"):                                    body("  x = ((a - b) - c)"),
		body("if x label 3 {} else {} if (x) label 4 { y = 1 }"): body("  if x label 3 {", "  }", "  if x label 4 {", "    y = 1", "  }"),
	} {
		p, _, e := parse.Program(text)
		if e != api.OK {
			t.Fatalf("%s: error %d", text, e)
		}
		prints(t, p, want)
	}
}

func TestArgumentsAndResults(t *testing.T) {
	made := func() (api.Program, api.Expr) {
		r := random{rand.New(rand.NewSource(7))}
		p := r.program()
		for len(p.Tasks) == 0 || len(p.Tasks[0].Body) == 0 {
			p = r.program()
		}
		return p, r.expr(8)
	}
	p, e := made()
	q, f := made()
	first, _ := Program(p)
	second, _ := Program(p)
	Expr(e)
	if first != second || !reflect.DeepEqual(p, q) || !reflect.DeepEqual(e, f) {
		t.Errorf("%+v has become %+v, %+v has become %+v", q, p, f, e)
	}
	name := strings.Clone("abc")
	if text, _ := Expr(v(name)); unsafe.StringData(text) == unsafe.StringData(name) {
		t.Error("the text of a name is the name itself")
	}
}

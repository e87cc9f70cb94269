package parse

import (
	"math"
	"reflect"
	"slices"
	"strconv"
	"strings"
	"testing"
	"timebound/api"
	"timebound/token"
)

func n(v int) api.Expr { return api.Expr{Kind: api.ExprNum, Num: v} }

func v(s string) api.Expr { return api.Expr{Kind: api.ExprName, Name: s} }

func at(s string, e api.Expr) api.Expr {
	return api.Expr{Kind: api.ExprIndex, Name: s, Args: []api.Expr{e}}
}

func bin(op int, a, b api.Expr) api.Expr {
	return api.Expr{Kind: api.ExprBin, Op: op, Args: []api.Expr{a, b}}
}

func one(e api.Expr) []api.Expr { return []api.Expr{e} }

func set(name string, e api.Expr) api.Stmt {
	return api.Stmt{Kind: api.StmtSet, Name: name, Value: one(e)}
}

// header is a line of a task without declarations.
const header = "task t period 200 deadline 150 priority 3 jitter 5\n"

// body is a task with these statements, which begin in line 3.
func body(text string) string { return header + "body\n" + text + "\nend\n" }

// brief is a text as it is written in a message.
func brief(text string) string {
	if len(text) > 300 {
		return strconv.Quote(text[:300]) + ".. (" + strconv.Itoa(len(text)) + " bytes)"
	}
	return strconv.Quote(text)
}

func parses(t *testing.T, text string, want api.Program) {
	t.Helper()
	if p, line, e := Program(text); e != api.OK || line != 0 || !reflect.DeepEqual(p, want) {
		t.Errorf("Program(%s) = %+v, line %d, error %d, not %+v", brief(text), p, line, e, want)
	}
}

func fails(t *testing.T, text string, line int, want api.Errno) {
	t.Helper()
	if p, at, e := Program(text); e != want || at != line || !reflect.DeepEqual(p, api.Program{}) {
		t.Errorf("Program(%s) = %+v, line %d, error %d, not line %d, error %d", brief(text), p, at, e, line, want)
	}
}

func runs(t *testing.T, statements string, want ...api.Stmt) {
	t.Helper()
	parses(t, body(statements), api.Program{Tasks: []api.Task{{Name: "t", Period: 200, Deadline: 150, Priority: 3, Jitter: 5, Body: want}}})
}

func scan(t *testing.T, text string) []api.Token {
	t.Helper()
	l, _, e := token.Scan(text)
	if e != api.OK {
		t.Fatalf("Scan(%s): %d", brief(text), e)
	}
	return l
}

func reads(t *testing.T, l []api.Token, want api.Expr, size int) {
	t.Helper()
	if e, k, code := Expr(l); code != api.OK || k != size || !reflect.DeepEqual(e, want) {
		t.Errorf("Expr(%s) = %+v, %d, error %d, not %+v, %d", brief(words(l)), e, k, code, want, size)
	}
}

func refuses(t *testing.T, l []api.Token, want api.Errno) {
	t.Helper()
	if e, k, code := Expr(l); code != want || k != 0 || !reflect.DeepEqual(e, api.Expr{}) {
		t.Errorf("Expr(%s) = %+v, %d, error %d, not error %d", brief(words(l)), e, k, code, want)
	}
}

func words(l []api.Token) string {
	var list []string
	for _, t := range l[:min(len(l), 100)] {
		list = append(list, token.Word(t))
	}
	return strings.Join(list, " ")
}

// P3.1: programs

func TestProgramsWithoutTasks(t *testing.T) {
	parses(t, "", api.Program{})
	parses(t, " \n\t\n", api.Program{})
	parses(t, "resource r", api.Program{Resources: []string{"r"}})
	parses(t, "shared a 3 b", api.Program{Shared: []api.Shared{{Array: api.Array{Name: "a", Size: 3}, Resource: "b"}}})
	parses(t, "resource r resource q\nresource r\nshared a 0 r shared a 2147483647 x", api.Program{
		Resources: []string{"r", "q", "r"},
		Shared:    []api.Shared{{Array: api.Array{Name: "a"}, Resource: "r"}, {Array: api.Array{Name: "a", Size: 1<<31 - 1}, Resource: "x"}},
	})
}

func TestDeclarations(t *testing.T) {
	parses(t, `resource r
shared s 8 r
task t period 1 deadline 2 priority 3 jitter 4
input a 0 15 input b -3 -1
input c 5 -2147483647
var d
var e
array f 8 array g 3
mode fast a 0 7
mode slow b -2 9
never 1 2 never 3 0
body
end
task u period 0 deadline 0 priority 0 jitter 0 body end
task u period 9 deadline 8 priority 7 jitter 6 mode m n - 1 2 body end
`, api.Program{
		Resources: []string{"r"},
		Shared:    []api.Shared{{Array: api.Array{Name: "s", Size: 8}, Resource: "r"}},
		Tasks: []api.Task{{
			Name: "t", Period: 1, Deadline: 2, Priority: 3, Jitter: 4,
			Inputs: []api.Input{{Name: "a", Hi: 15}, {Name: "b", Lo: -3, Hi: -1}, {Name: "c", Lo: 5, Hi: -(1<<31 - 1)}},
			Vars:   []string{"d", "e"},
			Arrays: []api.Array{{Name: "f", Size: 8}, {Name: "g", Size: 3}},
			Modes:  []api.Mode{{Name: "fast", Input: "a", Hi: 7}, {Name: "slow", Input: "b", Lo: -2, Hi: 9}},
			Claims: []api.Claim{{A: 1, B: 2}, {A: 3}},
		}, {Name: "u"}, {Name: "u", Period: 9, Deadline: 8, Priority: 7, Jitter: 6, Modes: []api.Mode{{Name: "m", Input: "n", Lo: -1, Hi: 2}}}},
	})
}

func TestStatements(t *testing.T) {
	runs(t, "")
	runs(t, "i = 0", set("i", n(0)))
	runs(t, "i = a b = c", set("i", v("a")), set("b", v("c")))
	runs(t, "a[i+1] = b[2] c = 1", api.Stmt{Kind: api.StmtStore, Name: "a", Index: one(bin(api.Add, v("i"), n(1))), Value: one(at("b", n(2)))}, set("c", n(1)))
	runs(t, "i = a - 1\n b[0] = 1", set("i", bin(api.Sub, v("a"), n(1))), api.Stmt{Kind: api.StmtStore, Name: "b", Index: one(n(0)), Value: one(n(1))})
	runs(t, "i = (a)\nb[0] = 1", set("i", v("a")), api.Stmt{Kind: api.StmtStore, Name: "b", Index: one(n(0)), Value: one(n(1))})
	runs(t, "if a label 3 { }", api.Stmt{Kind: api.StmtIf, Value: one(v("a")), Label: 3})
	runs(t, "if a label 3 { } else { }", api.Stmt{Kind: api.StmtIf, Value: one(v("a")), Label: 3})
	runs(t, "if a label 3 { } else { b = 1 c = 2 }", api.Stmt{Kind: api.StmtIf, Value: one(v("a")), Label: 3, Else: []api.Stmt{set("b", n(1)), set("c", n(2))}})
	runs(t, "if a < b label 0 { if b label 99 { b = 1 } else { b = 2 } } else { lock r { } }", api.Stmt{Kind: api.StmtIf, Value: one(bin(api.Lt, v("a"), v("b"))),
		Then: []api.Stmt{{Kind: api.StmtIf, Value: one(v("b")), Label: 99, Then: []api.Stmt{set("b", n(1))}, Else: []api.Stmt{set("b", n(2))}}},
		Else: []api.Stmt{{Kind: api.StmtLock, Name: "r"}}})
	runs(t, "while i < 9 max 8 label 2 { i = i + 1 }", api.Stmt{Kind: api.StmtWhile, Value: one(bin(api.Lt, v("i"), n(9))), Max: 8, Label: 2, Then: []api.Stmt{set("i", bin(api.Add, v("i"), n(1)))}})
	runs(t, "while 1 max 0 label 0 { } i = 1", api.Stmt{Kind: api.StmtWhile, Value: one(n(1))}, set("i", n(1)))
	runs(t, "lock r { lock q { i = 1 } } lock r { }", api.Stmt{Kind: api.StmtLock, Name: "r", Then: []api.Stmt{{Kind: api.StmtLock, Name: "q", Then: []api.Stmt{set("i", n(1))}}}}, api.Stmt{Kind: api.StmtLock, Name: "r"})
}

func TestSpacesDoNotMatter(t *testing.T) {
	text := "resource r shared s 8 r " + strings.ReplaceAll(body("while i <= -3 max 4 label 1 { a[i]=(i<<2)-x lock r { s[1] = a[2] } }"), "\n", " ")
	want, _, e := Program(text)
	if e != api.OK {
		t.Fatal(e)
	}
	for _, gap := range []string{"\n", "\t", "\n \n", "  "} {
		parses(t, gap+strings.ReplaceAll(text, " ", gap)+gap, want)
	}
}

// P3.1: errors

func TestErrorsOfScan(t *testing.T) {
	fails(t, "!", 1, api.ErrText)
	fails(t, "resource r\n\n?", 3, api.ErrText)
	fails(t, "resource r\nresource abcdefghijklm", 2, api.ErrText)
	fails(t, "shared a\n2147483648 r", 2, api.ErrText)
	fails(t, strings.Repeat(" ", api.MaxSource+1), 0, api.ErrLimit)
	parses(t, strings.Repeat(" ", api.MaxSource), api.Program{})
	// They come first, even if they are behind others.
	fails(t, "task\ntask\n!", 3, api.ErrText)
	fails(t, body(strings.Repeat("lock r {", 9)+"\n#"), 4, api.ErrText)
	fails(t, strings.Repeat("task\n", 2000), 0, api.ErrLimit)
}

func TestErrorsOfText(t *testing.T) {
	for text, line := range map[string]int{
		"x":                                1,
		"5":                                1,
		"body":                             1,
		"resource\nr\nq":                   3,
		"resource":                         1,
		"resource r\nresource\n":           2,
		"resource\n5":                      2,
		"resource\nend":                    2,
		"resource r\nshared s 1 r\ntask\n": 3,
		"shared s 1 r\nresource r":         2,
		"shared s\n-1 r":                   2,
		"shared s 1\n2":                    2,
		"shared s\nr":                      2,
		"task t period\n-1":                2,
		"task t\ndeadline 1":               2,
		"task t period 1 deadline 1 priority 1\nbody end": 2,
		"task t period 1 deadline 1 priority 1 jitter 0":  1,
		"task t period 1 deadline 1 jitter 0\n\n":         1,
		body("") + "end":                            5,
		body("") + "resource r":                     5,
		body("") + "shared":                         5,
		header + "body":                             2,
		header + "end":                              2,
		header + "input x\n\n":                      2,
		header + "input x 1\n-\n":                   3,
		header + "input x 1\n- -1 body end":         3,
		header + "input x -\n- 1 1 body end":        3,
		header + "input x 1\n+1 body end":           3,
		header + "input x 1 2\n3 body end":          3,
		header + "var x\ny body end":                3,
		header + "var x\ninput y 0 1 body end":      3,
		header + "array a 1\nvar x body end":        3,
		header + "array a\n-1 body end":             3,
		header + "mode m i 0 1\narray a 1":          3,
		header + "mode m\n0 1 body end":             3,
		header + "never 1 2\nmode m i 0 1":          3,
		header + "never 1\n-2":                      3,
		header + "never 1\nbody end":                3,
		header + "body\ni = 1\nbody":                4,
		header + "body\ni = 1\n}":                   4,
		body("i\ni"):                                4,
		body("i\n== 1"):                             4,
		body("1\n= i"):                              3,
		body("i = 1\n= 2"):                          4,
		body("i =\nend = 1"):                        4,
		body("end = 1"):                             3,
		body("max\n= 1"):                            3,
		body("a[1\n= 1"):                            4,
		body("a[\n] = 1"):                           4,
		body("a[1]\n[2] = 1"):                       4,
		body("a[1]\nb = 1"):                         4,
		body("i = a[1]\n= 3"):                       4,
		body("i = a +\n\n* 3"):                      5,
		body("i = a < b\n< c"):                      4,
		body("i = (a < b\n< c)"):                    4,
		body("i = (a\n]"):                           4,
		body("i = a[b\n)"):                          4,
		body("i = (a)\n[1]"):                        4,
		body("i = 1\n[1]"):                          4,
		body("i = a[1]\n[1]"):                       4,
		body("i = (\n)"):                            4,
		body("i = a\n)"):                            4,
		body("i = a\n("):                            4,
		body("i = a\n2"):                            4,
		body("i = -\n+1"):                           4,
		body("i = (a b\n"):                          3,
		body("i = a b\nc = 1"):                      4,
		body("if\nlabel 1 { }"):                     4,
		body("if a\n{ }"):                           4,
		body("if a max\n1 label 1 { }"):             3,
		body("if a label\n{ }"):                     4,
		body("if a label 1\ni = 1"):                 4,
		header + "body if a label 1 { i = 1\n":      2,
		body("if a label 1 { } else\nif b"):         4,
		body("if a label 1 { } else { }\nelse {}"):  4,
		body("else { }"):                            3,
		body("while a\nlabel 1 max 1 { }"):          4,
		body("while a max 1\n{ }"):                  4,
		body("while a max\n-1 label 1 { }"):         4,
		body("while a max 1 label 1 { }\nelse { }"): 4,
		body("lock\n{ }"):                           4,
		body("lock r\ni = 1"):                       4,
		body("lock r { }\n}"):                       4,
		body("{ }"):                                 3,
	} {
		fails(t, text, line, api.ErrText)
	}
}

func TestKeywordsAreNoNames(t *testing.T) {
	keywords := strings.Fields("resource shared task period deadline priority jitter input var array mode never body end if else while max label lock")
	for _, k := range keywords {
		fails(t, "resource\n"+k, 2, api.ErrText)
		fails(t, "shared\n"+k+" 1 r", 2, api.ErrText)
		fails(t, "shared s 1\n"+k, 2, api.ErrText)
		fails(t, "task\n"+k+" period 1", 2, api.ErrText)
		fails(t, body("lock\n"+k+" { }"), 4, api.ErrText)
		fails(t, body("i =\n"+k), 4, api.ErrText)
		fails(t, body("i = "+k+"\n[1]"), 3, api.ErrText)
		for _, declaration := range []string{"input", "var", "array", "mode", "mode m"} {
			fails(t, header+declaration+"\n"+k+" 1 1 body end", 3, api.ErrText)
		}
		refuses(t, scan(t, k), api.ErrText)
		refuses(t, scan(t, k+"[1]"), api.ErrText)
		parses(t, "resource "+k+"s", api.Program{Resources: []string{k + "s"}})
	}
}

// TestTextsThatEndTooEarly leaves out the last tokens of a program; each token has a line of its own.
func TestTextsThatEndTooEarly(t *testing.T) {
	l := strings.Fields(header + "input x -1 - 2 var v array a 4 mode m x - 1 2 never 1 2 body a [ ( 1 ) ] = - ( x + 3 ) if x < 1 label 1 { v = 1 } else { } while v max 3 label 2 { lock r { v = a [ x ] } } end")
	if _, _, e := Program(strings.Join(l, "\n")); e != api.OK {
		t.Fatal(e)
	}
	for size := 1; size < len(l); size++ {
		fails(t, strings.Join(l[:size], "\n"), size, api.ErrText)
		fails(t, strings.Join(l[:size], "\n")+"\n\n\n", size, api.ErrText)
		fails(t, strings.Join(l[:size], "\n")+"\n%", size+1, api.ErrText)
	}
}

// P3.1: limits

func TestDepthOfStatements(t *testing.T) {
	const block = "lock r {\n"
	for _, inner := range []string{"i = 1\n", "a[0] = 1\n", "lock q { }\n", "if a label 1 { }\n", "while a max 1 label 1 { }\n"} {
		if _, line, e := Program(body(strings.Repeat(block, 7) + inner + strings.Repeat("}", 7))); e != api.OK || line != 0 {
			t.Errorf("eight deep, %q: line %d, error %d", inner, line, e)
		}
		fails(t, body(strings.Repeat(block, 8)+inner+strings.Repeat("}", 8)), 11, api.ErrLimit)
	}
	if _, line, e := Program(body(strings.Repeat(block, 8) + strings.Repeat("}", 8))); e != api.OK || line != 0 {
		t.Errorf("eight locks: line %d, error %d", line, e)
	}
	fails(t, body(strings.Repeat(block, 500)), 11, api.ErrLimit)
	// A statement begins with its first token, even if there is no further one.
	fails(t, header+"body\n"+strings.Repeat(block, 8)+"i", 11, api.ErrLimit)
	fails(t, header+"body\n"+strings.Repeat(block, 8)+"if\n)", 11, api.ErrLimit)
	fails(t, header+"body\n"+strings.Repeat(block, 8)+"while", 11, api.ErrLimit)
	fails(t, header+"body\n"+strings.Repeat(block, 8)+"\nlock", 12, api.ErrLimit)
	// What begins no statement is none that is too deep.
	for _, inner := range []string{"else", "end", "1", "{", "(", "label"} {
		fails(t, body(strings.Repeat(block, 8)+inner+" = 1"), 11, api.ErrText)
	}
	fails(t, header+"body\n"+strings.Repeat(block, 8), 10, api.ErrText)
	fails(t, body(strings.Repeat(block, 7)+"lock r\ni = 1"), 11, api.ErrText)
}

func TestDepthOfAllBlocks(t *testing.T) {
	for _, block := range []string{"if a label 1 {\n", "if a label 1 { } else {\n", "while a max 1 label 1 {\n"} {
		if _, line, e := Program(body(strings.Repeat(block, 7) + "i = 1" + strings.Repeat("}", 7))); e != api.OK || line != 0 {
			t.Errorf("eight deep, %q: line %d, error %d", block, line, e)
		}
		fails(t, body(strings.Repeat(block, 8)+"i = 1"), 11, api.ErrLimit)
	}
	// Statements that follow one another are not deeper.
	if _, line, e := Program(body(strings.Repeat(strings.Repeat("lock r {", 7)+"i = 1"+strings.Repeat("}\n", 7), 20))); e != api.OK || line != 0 {
		t.Errorf("twenty in a row: line %d, error %d", line, e)
	}
}

func TestDepthOfExpressions(t *testing.T) {
	chain := func(terms int) string { return "a" + strings.Repeat("\n+ a", terms-1) }
	for _, place := range []string{"i =\n%", "b[\n%] = 1", "b[1] =\n%", "if\n% label 1 { }", "while\n% max 1 label 1 { }"} {
		inside := func(e string) string { return body(strings.Replace(place, "%", e, 1)) }
		if _, line, e := Program(inside(chain(8))); e != api.OK || line != 0 {
			t.Errorf("%q: line %d, error %d", place, line, e)
		}
		fails(t, inside(chain(9)), 12, api.ErrLimit)
		fails(t, inside(chain(30)), 12, api.ErrLimit)
		fails(t, inside("("+chain(9)+"\n)"), 12, api.ErrLimit)
		fails(t, inside(chain(9)+"\n%"+"\n)"), 14, api.ErrText)
	}
	nested := func(levels int) string { return strings.Repeat("a[", levels) + "1" + strings.Repeat("\n]", levels) }
	if _, line, e := Program(body("i = " + nested(7))); e != api.OK || line != 0 {
		t.Errorf("seven indices: line %d, error %d", line, e)
	}
	fails(t, body("i = "+nested(8)), 11, api.ErrLimit)
	fails(t, body("i = "+nested(20)), 11, api.ErrLimit)
	fails(t, body("i = "+strings.Repeat("-\n", 8)+"a"), 11, api.ErrLimit)
	fails(t, body("i = "+strings.Repeat("-\n", 8)+"a\n[\n1\n]"), 14, api.ErrLimit)
	if _, line, e := Program(body("i = " + strings.Repeat("-", 8) + "1")); e != api.OK || line != 0 {
		t.Errorf("a minus of a number: line %d, error %d", line, e)
	}
}

func TestWhatComesFirst(t *testing.T) {
	eight := strings.Repeat("a + ", 8)
	fails(t, body("i = "+eight+"a\n)"), 3, api.ErrLimit)
	fails(t, body("i = ("+eight+"a\n]"), 3, api.ErrLimit)
	fails(t, header+"body i = "+eight+"\na", 3, api.ErrLimit)
	fails(t, header+"body i = b[("+eight+"\na", 3, api.ErrLimit)
	fails(t, body("i = "+eight+"\n)"), 4, api.ErrText)
	// The ninth term does not end before its last token.
	fails(t, body("i = "+eight+"a *\n)"), 4, api.ErrText)
	fails(t, body("i = "+eight+"a *\nb"), 4, api.ErrLimit)
	fails(t, body("i = "+eight+"a\n[\n1\n]"), 6, api.ErrLimit)
	fails(t, body("i = "+eight+"a[\n)"), 4, api.ErrText)
	fails(t, body("i = "+eight+"(\na\n)"), 5, api.ErrLimit)
	fails(t, body("i = "+eight+"(\na\n]"), 5, api.ErrText)
	fails(t, body("i = "+eight+"-\na"), 4, api.ErrLimit)
	// The innermost part that is too deep ends first.
	fails(t, body("i = b[("+eight+"a\n)\n] + 1"), 3, api.ErrLimit)
	fails(t, body("i = b["+eight+"\na\n]"), 4, api.ErrLimit)
	// A comparison is not compared again, whatever is too deep in it.
	fails(t, body("i = a < b\n== "+eight+"a"), 4, api.ErrText)
	fails(t, body("i = "+eight+"a <\n"), 3, api.ErrLimit)
	// The first error of a text is found, not that of another kind.
	fails(t, body("i = "+eight+"a\nlock {"), 3, api.ErrLimit)
	fails(t, body("lock {\ni = "+eight+"a"), 3, api.ErrText)
	fails(t, body(strings.Repeat("lock r {", 8)+"\ni = "+eight+"\na"), 4, api.ErrLimit)
}

func TestParenthesesAddNoDepth(t *testing.T) {
	text := "i = " + strings.Repeat("(", 3000) + "a" + strings.Repeat(")", 3000)
	runs(t, text, set("i", v("a")))
	fails(t, body(text+"\n)"), 4, api.ErrText)
	fails(t, header+"body\n"+strings.TrimSuffix(text, ")"), 3, api.ErrText)
	fails(t, body("i = "+strings.Repeat("(", 8000)), 4, api.ErrText)
}

// P3.2: expressions of texts

func TestExpressions(t *testing.T) {
	a, b, c := v("a"), v("b"), v("c")
	for text, want := range map[string]api.Expr{
		"7":                n(7),
		"a":                a,
		"-7":               n(-7),
		"- 0":              n(0),
		"-a":               bin(api.Sub, n(0), a),
		"--7":              bin(api.Sub, n(0), n(-7)),
		"---7":             bin(api.Sub, n(0), bin(api.Sub, n(0), n(-7))),
		"-(7)":             bin(api.Sub, n(0), n(7)),
		"-(-7)":            bin(api.Sub, n(0), n(-7)),
		"(-7)":             n(-7),
		"-a[1]":            bin(api.Sub, n(0), at("a", n(1))),
		"a[-1]":            at("a", n(-1)),
		"-a * b":           bin(api.Mul, bin(api.Sub, n(0), a), b),
		"-7 * b":           bin(api.Mul, n(-7), b),
		"a * -b + c":       bin(api.Add, bin(api.Mul, a, bin(api.Sub, n(0), b)), c),
		"a - 7":            bin(api.Sub, a, n(7)),
		"a - -7":           bin(api.Sub, a, n(-7)),
		"a - - -7":         bin(api.Sub, a, bin(api.Sub, n(0), n(-7))),
		"a -7 - 8":         bin(api.Sub, bin(api.Sub, a, n(7)), n(8)),
		"a - b - c":        bin(api.Sub, bin(api.Sub, a, b), c),
		"a - (b - c)":      bin(api.Sub, a, bin(api.Sub, b, c)),
		"a / b * c":        bin(api.Mul, bin(api.Div, a, b), c),
		"a / (b * c)":      bin(api.Div, a, bin(api.Mul, b, c)),
		"a + b * c":        bin(api.Add, a, bin(api.Mul, b, c)),
		"a * b + c":        bin(api.Add, bin(api.Mul, a, b), c),
		"(a + b) * c":      bin(api.Mul, bin(api.Add, a, b), c),
		"a | b & c":        bin(api.Or, a, bin(api.And, b, c)),
		"a & b | c":        bin(api.Or, bin(api.And, a, b), c),
		"a ^ b | c + 1":    bin(api.Add, bin(api.Or, bin(api.Xor, a, b), c), n(1)),
		"a << b + c":       bin(api.Add, bin(api.Shl, a, b), c),
		"a + b >> c":       bin(api.Add, a, bin(api.Shr, b, c)),
		"a < b + c":        bin(api.Lt, a, bin(api.Add, b, c)),
		"a + b <= c":       bin(api.Le, bin(api.Add, a, b), c),
		"a * b == c % 2":   bin(api.Eq, bin(api.Mul, a, b), bin(api.Rem, c, n(2))),
		"(a < b) != c":     bin(api.Ne, bin(api.Lt, a, b), c),
		"a < (b < c)":      bin(api.Lt, a, bin(api.Lt, b, c)),
		"a[b < c] < 1":     bin(api.Lt, at("a", bin(api.Lt, b, c)), n(1)),
		"a < b[a < b]":     bin(api.Lt, a, at("b", bin(api.Lt, a, b))),
		"(a < b) + (a<c)":  bin(api.Add, bin(api.Lt, a, b), bin(api.Lt, a, c)),
		"a[b[c[1]]]":       at("a", at("b", at("c", n(1)))),
		"a[1] + b[2]":      bin(api.Add, at("a", n(1)), at("b", n(2))),
		"a[(b)]":           at("a", b),
		"((a))":            a,
		"((a)) + (((b)))":  bin(api.Add, a, b),
		"-((a))":           bin(api.Sub, n(0), a),
		"(a - (-(b)) * 2)": bin(api.Sub, a, bin(api.Mul, bin(api.Sub, n(0), b), n(2))),
	} {
		l := scan(t, text)
		reads(t, l, want, len(l))
		for _, more := range []string{")", "]", "}", "label 1", "x", "3", "=", "{", "(", "end"} {
			reads(t, append(slices.Clip(l), scan(t, more)...), want, len(l))
		}
	}
}

func TestOperators(t *testing.T) {
	for i, s := range strings.Fields("+ - * / % & | ^ << >> < <= == !=") {
		reads(t, scan(t, "a "+s+" b"), bin(api.Add+i, v("a"), v("b")), 3)
		reads(t, scan(t, "1"+s+"(2)"), bin(api.Add+i, n(1), n(2)), 5)
	}
}

// TestPairsOfOperators checks how each two operators are joined.
func TestPairsOfOperators(t *testing.T) {
	level := map[int]int{api.Mul: 3, api.Div: 3, api.Rem: 3, api.And: 3, api.Shl: 3, api.Shr: 3, api.Add: 2, api.Sub: 2, api.Or: 2, api.Xor: 2, api.Lt: 1, api.Le: 1, api.Eq: 1, api.Ne: 1}
	signs := strings.Fields("+ - * / % & | ^ << >> < <= == !=")
	for i, s := range signs {
		for k, u := range signs {
			first, second := api.Add+i, api.Add+k
			l := scan(t, "a "+s+" b "+u+" c")
			switch {
			case level[first] == 1 && level[second] == 1:
				reads(t, l, bin(first, v("a"), v("b")), 3)
			case level[first] >= level[second]:
				reads(t, l, bin(second, bin(first, v("a"), v("b")), v("c")), 5)
			default:
				reads(t, l, bin(first, v("a"), bin(second, v("b"), v("c"))), 5)
			}
		}
	}
}

func TestLongestBeginning(t *testing.T) {
	a, b := v("a"), v("b")
	for _, c := range []struct {
		text string
		want api.Expr
		size int
	}{
		{"a b", a, 1}, {"a 1", a, 1}, {"1 a", n(1), 1}, {"a )", a, 1}, {"a ]", a, 1}, {"a = b", a, 1}, {"a {", a, 1}, {"a (", a, 1}, {"a if", a, 1},
		{"a +", a, 1}, {"a + )", a, 1}, {"a + * b", a, 1}, {"a + (b", a, 1}, {"a + (b + ", a, 1}, {"a + -", a, 1}, {"a + - - )", a, 1}, {"a + b[", bin(api.Add, a, b), 3}, {"a * if", a, 1},
		{"a [", a, 1}, {"a [ ]", a, 1}, {"a [ b", a, 1}, {"a [ b )", a, 1}, {"a [ b + ]", a, 1}, {"a [ b [ 1 ]", a, 1}, {"a [1] [2]", at("a", n(1)), 4}, {"a [1] + [", at("a", n(1)), 4},
		{"1 [ 2 ]", n(1), 1}, {"(a) [ 2 ]", a, 3}, {"(a)(b)", a, 3}, {"((a) b", api.Expr{}, 0}, {"-7 [1]", n(-7), 2},
		{"a < b < 1", bin(api.Lt, a, b), 3}, {"a < b == 1", bin(api.Lt, a, b), 3}, {"a == b + 1 != 3", bin(api.Eq, a, bin(api.Add, b, n(1))), 5}, {"(a < b < a)", api.Expr{}, 0}, {"a + (a < b < a)", a, 1},
		{"a < ", a, 1}, {"a + b <", bin(api.Add, a, b), 3}, {"a < b +", bin(api.Lt, a, b), 3}, {"a + b * )", bin(api.Add, a, b), 3}, {"a * b + (", bin(api.Mul, a, b), 3}, {"a < b * (a - ", bin(api.Lt, a, b), 3},
		{"-a -", bin(api.Sub, n(0), a), 2}, {"-a[1", bin(api.Sub, n(0), a), 2}, {"--7 +", bin(api.Sub, n(0), n(-7)), 3}, {"- 7 7", n(-7), 2},
		{"(a) + (b", a, 3}, {"(a + b) * (b", bin(api.Add, a, b), 5},
		{"", api.Expr{}, 0}, {")", api.Expr{}, 0}, {"(", api.Expr{}, 0}, {"()", api.Expr{}, 0}, {"[1]", api.Expr{}, 0}, {"-", api.Expr{}, 0}, {"- -", api.Expr{}, 0}, {"-)", api.Expr{}, 0}, {"+ a", api.Expr{}, 0},
		{"* a", api.Expr{}, 0}, {"(a", api.Expr{}, 0}, {"(a]", api.Expr{}, 0}, {"(a +) b", api.Expr{}, 0}, {"(1 = 2)", api.Expr{}, 0}, {"= 1", api.Expr{}, 0}, {"< a", api.Expr{}, 0}, {"-(a", api.Expr{}, 0}, {"{", api.Expr{}, 0},
	} {
		l := scan(t, c.text)
		if c.size == 0 {
			refuses(t, l, api.ErrText)
			continue
		}
		reads(t, l, c.want, c.size)
	}
	refuses(t, nil, api.ErrText)
	refuses(t, []api.Token{}, api.ErrText)
}

func TestDepth(t *testing.T) {
	chain := func(terms int) string { return "a" + strings.Repeat("+a", terms-1) }
	nested := func(levels int) string { return strings.Repeat("a[", levels) + "a" + strings.Repeat("]", levels) }
	right := func(terms int) string { return strings.Repeat("a+(", terms-1) + "a" + strings.Repeat(")", terms-1) }
	for text, want := range map[string]api.Errno{
		chain(8): api.OK, chain(9): api.ErrLimit, chain(2000): api.ErrLimit,
		nested(7): api.OK, nested(8): api.ErrLimit, nested(1000): api.ErrLimit,
		right(8): api.OK, right(9): api.ErrLimit,
		strings.Repeat("-", 7) + "a": api.OK, strings.Repeat("-", 8) + "a": api.ErrLimit,
		strings.Repeat("-", 8) + "1": api.OK, strings.Repeat("-", 9) + "1": api.ErrLimit,
		chain(7) + "< a*a*a": api.OK, chain(8) + "< a": api.ErrLimit, "a <" + chain(8): api.ErrLimit,
		"(" + chain(8) + ")": api.OK, "a[" + chain(7) + "]": api.OK, "a[" + chain(8) + "]": api.ErrLimit, "-(" + chain(8) + ")": api.ErrLimit,
		strings.Repeat("(", 100) + chain(8) + strings.Repeat(")", 100): api.OK,
		// What is not a part of the longest expression does not matter.
		chain(8) + "+": api.OK, chain(8) + "+(a": api.OK, "a + (" + chain(9): api.OK, "a[" + chain(9): api.OK, "a b" + chain(9): api.OK, "a <" + chain(7) + "<" + chain(9): api.OK,
		chain(9) + "+": api.ErrLimit, chain(9) + ")": api.ErrLimit, chain(9) + "<": api.ErrLimit, chain(9) + "+(": api.ErrLimit,
		"(" + chain(9): api.ErrText, "(" + chain(9) + "]": api.ErrText, nested(8) + "[": api.ErrLimit, strings.TrimSuffix(nested(8), "]"): api.OK,
	} {
		l := scan(t, text)
		if want != api.OK {
			refuses(t, l, want)
			continue
		}
		if _, size, e := Expr(l); e != api.OK || size == 0 {
			t.Errorf("%s: %d, error %d", brief(text), size, e)
		}
	}
}

// P3.2: tokens that are those of no text

func name(s string) api.Token { return api.Token{Kind: api.TokenName, Text: s} }

func num(n int) api.Token { return api.Token{Kind: api.TokenNum, Num: n} }

func sign(s string) api.Token { return api.Token{Kind: api.TokenSign, Text: s} }

func other(s string) api.Token { return api.Token{Kind: 77, Num: 5, Text: s} }

func TestNumbersOfTokens(t *testing.T) {
	for _, k := range []int{0, 1, 1 << 31, 1 << 40, math.MaxInt, -1, -7, -1 << 31} {
		reads(t, []api.Token{num(k)}, n(k), 1)
		reads(t, []api.Token{sign("-"), num(k)}, n(-k), 2)
	}
	// A number has no other meaning, whatever its text.
	for _, s := range []string{"-", "(", "a", "if"} {
		reads(t, []api.Token{{Kind: api.TokenNum, Num: 3, Text: s}}, n(3), 1)
		reads(t, []api.Token{{Kind: api.TokenNum, Num: 3, Text: s}, num(4)}, n(3), 1)
	}
	reads(t, []api.Token{name("a"), {Kind: api.TokenNum, Text: "["}, num(1), sign("]")}, v("a"), 1)
	reads(t, []api.Token{name("a"), {Kind: api.TokenNum, Text: "+"}, num(1)}, v("a"), 1)
	reads(t, []api.Token{name("a"), sign("["), num(1), {Kind: api.TokenNum, Text: "]"}}, v("a"), 1)
	refuses(t, []api.Token{sign("("), num(1), {Kind: api.TokenNum, Text: ")"}}, api.ErrText)
}

func TestNamesOfTokens(t *testing.T) {
	for _, s := range []string{"", "a", "A", "no name", "abcdefghijklmnop", "+", "(", ")", "[", "]", "{", "=", "<", "7", "\xff", "ifs"} {
		reads(t, []api.Token{name(s)}, v(s), 1)
		reads(t, []api.Token{name(s), sign("["), name(s), sign("]")}, at(s, v(s)), 4)
		reads(t, []api.Token{name(s), sign("+"), name(s)}, bin(api.Add, v(s), v(s)), 3)
		reads(t, []api.Token{sign("-"), name(s)}, bin(api.Sub, n(0), v(s)), 2)
		reads(t, []api.Token{sign("("), name(s), sign(")")}, v(s), 3)
	}
	// But a minus is one.
	reads(t, []api.Token{name("-"), num(7)}, n(-7), 2)
	reads(t, []api.Token{name("-"), name("a")}, bin(api.Sub, n(0), v("a")), 2)
	reads(t, []api.Token{name("-"), name("-"), num(7)}, bin(api.Sub, n(0), n(-7)), 3)
	reads(t, []api.Token{name("a"), sign("*"), name("-"), name("b")}, bin(api.Mul, v("a"), bin(api.Sub, n(0), v("b"))), 4)
	refuses(t, []api.Token{name("-")}, api.ErrText)
	refuses(t, []api.Token{name("-"), sign("["), num(1), sign("]")}, api.ErrText)
	// What has no other kind of a name is none.
	for _, kind := range []int{0, -1, api.TokenSign, 4, math.MaxInt, math.MinInt} {
		refuses(t, []api.Token{{Kind: kind, Text: "a"}}, api.ErrText)
		reads(t, []api.Token{name("a"), sign("+"), {Kind: kind, Text: "b"}}, v("a"), 1)
	}
}

func TestOperatorsOfTokens(t *testing.T) {
	for _, s := range strings.Fields("+ - * / % & | ^ << >> < <= == !=") {
		for _, no := range []api.Token{name(s), other(s), {Kind: api.TokenNum, Text: s}, {Text: s}, sign(s + " "), sign(""), sign(">")} {
			reads(t, []api.Token{name("a"), no, name("b")}, v("a"), 1)
			refuses(t, []api.Token{sign("("), name("a"), no, name("b"), sign(")")}, api.ErrText)
		}
	}
}

func TestSignsOfTokens(t *testing.T) {
	for _, make := range []func(string) api.Token{sign, other, func(s string) api.Token { return api.Token{Text: s} }} {
		reads(t, []api.Token{make("-"), num(7)}, n(-7), 2)
		reads(t, []api.Token{make("-"), make("-"), name("a")}, bin(api.Sub, n(0), bin(api.Sub, n(0), v("a"))), 3)
		reads(t, []api.Token{make("("), name("a"), make(")")}, v("a"), 3)
		reads(t, []api.Token{name("a"), make("["), num(1), make("]"), sign("+"), num(2)}, bin(api.Add, at("a", n(1)), n(2)), 6)
	}
	// Where an operand cannot begin, a name with the text of a sign is that sign.
	reads(t, []api.Token{name("a"), name("["), num(1), name("]")}, at("a", n(1)), 4)
	reads(t, []api.Token{sign("("), num(1), name(")")}, n(1), 3)
	reads(t, []api.Token{name("("), num(1), sign(")")}, v("("), 1)
	reads(t, []api.Token{name("["), name("["), name("["), name("]")}, at("[", v("[")), 4)
	// Without an open bracket nothing closes one, not even an empty text.
	reads(t, []api.Token{name("a"), {}, name("b")}, v("a"), 1)
	reads(t, []api.Token{name("a"), sign(""), sign("+"), name("b")}, v("a"), 1)
	refuses(t, []api.Token{{}}, api.ErrText)
}

// R1: arguments that are great

// TestManyBrackets has so many that a recursion would need more memory than a goroutine gets.
func TestManyBrackets(t *testing.T) {
	const many = 1 << 20
	begin, end := slices.Repeat([]api.Token{sign("(")}, many), slices.Repeat([]api.Token{sign(")")}, many)
	refuses(t, begin, api.ErrText)
	whole := slices.Concat(begin, []api.Token{name("a")}, end)
	reads(t, whole, v("a"), 2*many+1)
	refuses(t, whole[:2*many], api.ErrText)
	index := slices.Repeat([]api.Token{name("a"), sign("[")}, many)
	reads(t, index, v("a"), 1)
	refuses(t, slices.Concat(index, []api.Token{num(1)}, slices.Repeat([]api.Token{sign("]")}, many)), api.ErrLimit)
}

func TestGreatExpressions(t *testing.T) {
	const many = 1 << 17
	repeat := func(l ...api.Token) []api.Token { return slices.Repeat(l, many) }
	refuses(t, repeat(sign("-")), api.ErrText)
	refuses(t, append(repeat(sign("-")), name("a")), api.ErrLimit)
	refuses(t, repeat(name("a"), sign("+")), api.ErrLimit)
	reads(t, repeat(name("a"), sign("<")), bin(api.Lt, v("a"), v("a")), 3)
	reads(t, repeat(name("a"), sign("*"), sign("(")), v("a"), 1)
	reads(t, repeat(num(1)), n(1), 1)
	refuses(t, repeat(sign("]")), api.ErrText)
}

// R3: what is given and what is returned

func TestArgumentsStayAsTheyAre(t *testing.T) {
	l := scan(t, "a[1] + -b * (c - 2) < 4 +")
	before := slices.Clone(l)
	e, size, _ := Expr(l)
	if !slices.Equal(l, before) {
		t.Error("Expr changes its tokens")
	}
	again, _, _ := Expr(l)
	clear(l)
	if !reflect.DeepEqual(e, again) || size != len(before)-1 {
		t.Error("Expr keeps its tokens")
	}
	again.Args[0].Args[0].Args[0].Num = 99
	if e.Args[0].Args[0].Args[0].Num != 1 {
		t.Error("two results share memory")
	}
}

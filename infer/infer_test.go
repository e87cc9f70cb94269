package infer

import (
	"fmt"
	"math"
	"slices"
	"strings"
	"testing"
	"timebound/api"
	"timebound/parse"
)

const (
	around = "resource r\nshared buf 4 r\n"
	own    = "input x 0 15\ninput y -3 3\nvar i\nvar k\narray a 4\nmode fast x 0 7\nmode slow y 2 2\nmode full x 0 15\n"
)

// parsed is the program of a text.
func parsed(t *testing.T, text string) api.Program {
	t.Helper()
	p, line, e := parse.Program(text)
	if e != api.OK {
		t.Fatalf("%q: error %d in line %d", text, e, line)
	}
	return p
}

func task(name, own, body string) string {
	return "task " + name + " period 200 deadline 150 priority 3 jitter 5\n" + own + "body\n" + body + "\nend\n"
}

// program is one with a task of the declarations of these tests, and claims.
func program(t *testing.T, claims, body string) api.Program {
	t.Helper()
	return parsed(t, around+task("t", own+claims, body))
}

// full is the ranges of the inputs of these tests.
func full() []api.Range { return []api.Range{{Lo: 0, Hi: 15}, {Lo: -3, Hi: 3}} }

// show writes a fact: its terms as coefficient*point, and what they are at most.
func show(f api.Fact) string {
	var l []string
	for _, t := range f.Terms {
		l = append(l, fmt.Sprintf("%d*%d", t.Coef, t.Of))
	}
	return fmt.Sprintf("%s<=%d", strings.Join(l, "+"), f.Most)
}

// report writes a proof: its facts, claims, and the whiles by Most and Natural (other labels have nothing to write).
func report(p api.Proof) string {
	if len(p.Most) != 13 || len(p.Natural) != 13 {
		return "lists of other lengths"
	}
	var l []string
	for _, f := range p.Facts {
		l = append(l, show(f))
	}
	for _, c := range p.Never {
		l = append(l, fmt.Sprintf("never %d %d", c.A, c.B))
	}
	for label, most := range p.Most {
		if p.Natural[label] {
			l = append(l, fmt.Sprintf("while %d: %d, natural", label, most))
		} else if most != 0 {
			l = append(l, fmt.Sprintf("while %d: %d", label, most))
		}
	}
	return strings.Join(l, "; ")
}

// P10.1: Whole and Narrow

// tasks is a program of three tasks with other inputs and modes.
func tasks(t *testing.T) api.Program {
	t.Helper()
	return parsed(t, around+task("t", own, "")+
		task("u", "input z -2147483647 2147483647\ninput x 5 5\ninput w -9 -1\ninput y 0 1\nmode last y 1 1\nmode low z -2147483647 -2147483647\nmode mid w -5 -3\n", "")+
		task("v", "var x\n", "x = 1"))
}

// TestWhole looks at the ranges of all tasks: modes do not matter.
func TestWhole(t *testing.T) {
	p := tasks(t)
	for task, want := range [][]api.Range{full(), {{Lo: -math.MaxInt32, Hi: math.MaxInt32}, {Lo: 5, Hi: 5}, {Lo: -9, Hi: -1}, {Lo: 0, Hi: 1}}, {}} {
		if l, e := Whole(p, task); e != api.OK || !slices.Equal(l, want) {
			t.Errorf("task %d: error %d, %v, not %v", task, e, l, want)
		}
	}
}

func TestNarrow(t *testing.T) {
	p := tasks(t)
	z, x, w, y := api.Range{Lo: -math.MaxInt32, Hi: math.MaxInt32}, api.Range{Lo: 5, Hi: 5}, api.Range{Lo: -9, Hi: -1}, api.Range{Lo: 0, Hi: 1}
	for task, modes := range [][][]api.Range{
		{{{Lo: 0, Hi: 7}, {Lo: -3, Hi: 3}}, {{Lo: 0, Hi: 15}, {Lo: 2, Hi: 2}}, full()},
		{{z, x, w, {Lo: 1, Hi: 1}}, {{Lo: -math.MaxInt32, Hi: -math.MaxInt32}, x, w, y}, {z, x, {Lo: -5, Hi: -3}, y}},
		{},
	} {
		for mode, want := range modes {
			if l, e := Narrow(p, task, mode); e != api.OK || !slices.Equal(l, want) {
				t.Errorf("task %d, mode %d: error %d, %v, not %v", task, mode, e, l, want)
			}
		}
		for _, mode := range []int{-1, len(modes), len(modes) + 1, math.MinInt, math.MaxInt} {
			if l, e := Narrow(p, task, mode); e != api.ErrRange || len(l) != 0 {
				t.Errorf("task %d, mode %d: error %d, %v", task, mode, e, l)
			}
		}
	}
}

// TestRangesAreNew changes what was returned: it is the caller's alone.
func TestRangesAreNew(t *testing.T) {
	p := tasks(t)
	for range 2 {
		a, _ := Whole(p, 0)
		b, _ := Narrow(p, 0, 2)
		if !slices.Equal(a, full()) || !slices.Equal(b, full()) {
			t.Fatalf("%v, %v", a, b)
		}
		a[0], b[0] = api.Range{}, api.Range{}
	}
}

// errs asks all calls for a task that they must refuse with the same error. Prove and Narrow could find further errors.
func errs(t *testing.T, what string, p api.Program, task int, want api.Errno) {
	t.Helper()
	a, e := Whole(p, task)
	b, f := Narrow(p, task, 9)
	c, g := Prove(p, task, nil)
	if e != want || f != want || g != want || len(a)+len(b)+len(c.Facts)+len(c.Most)+len(c.Natural)+len(c.Never) != 0 {
		t.Errorf("%s: errors %d, %d, %d, not %d: %v, %v, %v", what, e, f, g, want, a, b, c)
	}
}

func TestErrorsOfTasks(t *testing.T) {
	p := program(t, "", "")
	for _, task := range []int{-1, 1, 2, math.MinInt, math.MaxInt} {
		errs(t, fmt.Sprintf("task %d", task), p, task, api.ErrTask)
	}
	errs(t, "a fourth task", tasks(t), 3, api.ErrTask)
}

// TestErrorsOfPrograms has programs that are wrong: their error comes before that of a task that is not there.
func TestErrorsOfPrograms(t *testing.T) {
	errs(t, "no program", api.Program{}, 0, api.ErrLimit)
	for body, want := range map[string]api.Errno{
		"q = 1":                      api.ErrName,
		"while x max 33 label 1 { }": api.ErrRange,
		"if x label 13 { }":          api.ErrLabel,
		"i = buf[0]":                 api.ErrLock,
		"while x max 32 label 1 { i = x + 1 while x max 32 label 2 { i = x + 1 } }": api.ErrWeight,
	} {
		p := program(t, "", body)
		errs(t, body, p, 0, want)
		errs(t, body, p, 1, want)
	}
	p := program(t, "", "")
	p.Tasks[0].Name = "1"
	errs(t, "not printable", p, 0, api.ErrForm)
	body := make([]api.Stmt, 9)
	for i := range body {
		body[i] = api.Stmt{Kind: api.StmtIf, Label: i, Value: []api.Expr{{Kind: api.ExprNum}}, Then: body, Else: body}
	}
	p = program(t, "", "")
	p.Tasks[0].Body = body
	errs(t, "a body in itself", p, 0, api.ErrLimit)
	// Each mode must have its input, each claim its ifs.
	errs(t, "a mode", parsed(t, task("t", "var x\nmode m x 1 1\n", "")), 0, api.ErrName)
	errs(t, "a range of a mode", parsed(t, task("t", "input x 0 3\nmode m x 1 4\n", "")), 0, api.ErrRange)
	errs(t, "a claim", program(t, "never 1 2\n", "if x label 1 { } while x max 1 label 2 { }"), 0, api.ErrLabel)
	// An error of another task is one, too.
	p = tasks(t)
	p.Tasks[2].Period = 0
	errs(t, "another task", p, 0, api.ErrRange)
}

// P10.3: Prove

// proves compares proofs for the full ranges. A body can begin with claims.
func proves(t *testing.T, ranges []api.Range, list map[string]string) {
	t.Helper()
	for text, want := range list {
		claims, body, found := strings.Cut(text, ": ")
		if !found {
			claims, body = "", text
		}
		claims = strings.ReplaceAll(claims, ", ", "\n")
		if claims != "" {
			claims += "\n"
		}
		if proof, e := Prove(program(t, claims, body), 0, ranges); e != api.OK || report(proof) != want {
			t.Errorf("%q: error %d\n     %s\nnot: %s", text, e, report(proof), want)
		}
	}
}

// ways writes the facts of a label that is passed as often as said.
func ways(label, reached, begun, left int) string {
	return fmt.Sprintf("1*%d<=%d; 1*%d<=%d; 1*%d<=%d", 3*label, reached, 3*label+1, begun, 3*label+2, left)
}

func TestProve(t *testing.T) {
	proves(t, full(), map[string]string{
		"":                                           "",
		"i = 1 lock r { buf[0] = x }":                "",
		"if x label 1 { }":                           ways(1, 1, 1, 1),
		"if 1 label 12 { }":                          ways(12, 1, 1, 0),
		"if 0 label 7 { i = 1 }":                     ways(7, 1, 0, 1),
		"if x label 9 { } if 1 label 2 { }":          ways(2, 1, 1, 0) + "; " + ways(9, 1, 1, 1),
		"if 0 label 3 { if x label 1 { } }":          ways(1, 0, 0, 0) + "; " + ways(3, 1, 0, 1),
		"lock r { if buf[0] label 4 { } }":           ways(4, 1, 1, 1),
		"if 1 label 4 { } else { if x label 5 { } }": ways(4, 1, 1, 0) + "; " + ways(5, 0, 0, 0),
	})
}

func TestProveWhiles(t *testing.T) {
	proves(t, full(), map[string]string{
		"while i < 3 max 9 label 1 { i = i + 1 }":  ways(1, 1, 3, 1) + "; -3*3+1*4<=0; while 1: 3, natural",
		"while i < 9 max 3 label 12 { i = i + 1 }": ways(12, 1, 3, 1) + "; -3*36+1*37<=0; while 12: 3",
		"while i < x max 9 label 2 { i = i + 1 }":  ways(2, 1, 9, 10) + "; -9*6+1*7<=0; while 2: 9",
		"while i < x max 15 label 2 { i = i + 1 }": ways(2, 1, 15, 16) + "; -15*6+1*7<=0; while 2: 15, natural",
		// Without a body there is one term only.
		"while 0 max 9 label 3 { }":                  ways(3, 1, 0, 1) + "; 1*10<=0; while 3: 0, natural",
		"while 1 max 0 label 3 { }":                  ways(3, 1, 0, 1) + "; 1*10<=0",
		"if 0 label 1 { while x max 9 label 3 { } }": ways(1, 1, 0, 1) + "; " + ways(3, 0, 0, 0) + "; 1*10<=0; while 3: 0, natural",
		// What belongs to whiles comes behind all points, by ascending labels, not in the order of the text.
		"while i < 2 max 2 label 5 { i = i + 1 } while k < 4 max 4 label 2 { k = k + 1 } if x label 3 { }": ways(2, 1, 4, 1) + "; " + ways(3, 1, 1, 1) + "; " + ways(5, 1, 2, 1) + "; -4*6+1*7<=0; -2*15+1*16<=0; while 2: 4, natural; while 5: 2, natural",
		// Loops, and ifs, in loops: Passes counts them all, Most those for each time that a loop is reached.
		"while i < 3 max 3 label 1 { i = i + 1 k = 0 while k < 2 max 9 label 2 { k = k + 1 if i < 2 label 3 { } } }":       ways(1, 1, 3, 1) + "; " + ways(2, 3, 6, 3) + "; " + ways(3, 6, 2, 4) + "; -3*3+1*4<=0; -2*6+1*7<=0; while 1: 3, natural; while 2: 2, natural",
		"while i < 3 max 3 label 2 { k = 0 while k < i max 9 label 1 { k = k + 1 } i = i + 1 }":                            ways(1, 3, 3, 3) + "; " + ways(2, 1, 3, 1) + "; -2*3+1*4<=0; -3*6+1*7<=0; while 1: 2, natural; while 2: 3, natural",
		"if x label 8 { lock r { while i < 1 max 1 label 4 { i = 1 } } } else { while i < 2 max 9 label 6 { i = i + 1 } }": ways(4, 1, 1, 1) + "; " + ways(6, 1, 2, 1) + "; " + ways(8, 1, 1, 1) + "; -1*12+1*13<=0; -2*18+1*19<=0; while 4: 1, natural; while 6: 2, natural",
	})
}

// TestProveForRanges proves one task for other ranges.
func TestProveForRanges(t *testing.T) {
	body := "never 1 3: if x < 5 label 1 { } while i < x max 15 label 2 { i = i + 1 } if 4 < x label 3 { }"
	for want, ranges := range map[string][]api.Range{
		ways(1, 1, 1, 1) + "; " + ways(2, 1, 15, 16) + "; " + ways(3, 1, 1, 1) + "; -15*6+1*7<=0; 1*4+1*10<=1; never 1 3; while 2: 15, natural": full(),
		ways(1, 1, 1, 0) + "; " + ways(2, 1, 4, 3) + "; " + ways(3, 1, 0, 1) + "; -4*6+1*7<=0; 1*4+1*10<=1; never 1 3; while 2: 4, natural":     {{Lo: 2, Hi: 4}, {Lo: 0, Hi: 0}},
		ways(1, 1, 0, 1) + "; " + ways(2, 1, 9, 1) + "; " + ways(3, 1, 1, 0) + "; -9*6+1*7<=0; 1*4+1*10<=1; never 1 3; while 2: 9, natural":     {{Lo: 9, Hi: 9}, {Lo: -3, Hi: 3}},
	} {
		proves(t, ranges, map[string]string{body: want})
	}
	// Claims are proved for some ranges only.
	for lo, want := range map[int]string{0: "1*4<=1; 1*7<=1", 6: "1*4<=1; 1*7<=0; 1*4+1*7<=1; never 2 1"} {
		proof, e := Prove(program(t, "never 2 1\n", "if 2 < x label 1 { } if x < 6 label 2 { }"), 0, []api.Range{{Lo: lo, Hi: 15}, {}})
		var l []string
		for _, s := range strings.Split(report(proof), "; ") {
			if !strings.HasPrefix(s, "1*3<") && !strings.HasPrefix(s, "1*5<") && !strings.HasPrefix(s, "1*6<") && !strings.HasPrefix(s, "1*8<") {
				l = append(l, s)
			}
		}
		if text := strings.Join(l, "; "); e != api.OK || text != want {
			t.Errorf("from %d: error %d, %s, not %s", lo, e, text, want)
		}
	}
}

// claimed proves claims, and compares what is proved of them: the last facts, and Never.
func claimed(t *testing.T, claims, body, want string) {
	t.Helper()
	proof, e := Prove(program(t, "never "+strings.ReplaceAll(claims, ", ", "\nnever ")+"\n", body), 0, full())
	var l []string
	for i, f := range proof.Facts {
		if i >= len(proof.Facts)-len(proof.Never) {
			l = append(l, show(f))
		}
	}
	for _, c := range proof.Never {
		l = append(l, fmt.Sprintf("%d %d", c.A, c.B))
	}
	// A fact of a claim is the only one that is at most 1 with two terms.
	pairs := 0
	for _, f := range proof.Facts {
		if len(f.Terms) == 2 && f.Most == 1 {
			pairs++
		}
	}
	if text := strings.Join(l, "; "); e != api.OK || text != want || pairs != len(proof.Never) {
		t.Errorf("%s: %q: error %d, %s, not %s", claims, body, e, text, want)
	}
}

func TestClaims(t *testing.T) {
	const two = "if x < 5 label 1 { } if 9 < x label 2 { }"
	claimed(t, "1 2", two, "1*4+1*7<=1; 1 2")
	// The terms ascend, the claim stays as it is.
	claimed(t, "2 1", two, "1*4+1*7<=1; 2 1")
	claimed(t, "2 1, 1 2, 2 1, 2 1", two, "1*4+1*7<=1; 1*4+1*7<=1; 1*4+1*7<=1; 1*4+1*7<=1; 2 1; 1 2; 2 1; 2 1")
	claimed(t, "1 2", "if x < 5 label 1 { } if 4 < x label 2 { }", "1*4+1*7<=1; 1 2")
	claimed(t, "1 2", "if x < 5 label 1 { } if 3 < x label 2 { }", "")
	claimed(t, "1 2", "if x < 5 label 1 { } else { } if x < 5 label 2 { } else { }", "")
	// In the order of the task, those that are not proved left out.
	claimed(t, "10 11, 2 3, 3 1, 1 2", "if x < 5 label 1 { } if 4 < x label 2 { } if x < 6 label 3 { } if y < 0 label 11 { } if 0 < y label 10 { }", "1*31+1*34<=1; 1*4+1*7<=1; 10 11; 1 2")
	// It is Then that is not passed: Else does not matter.
	claimed(t, "1 2", "if 0 label 1 { } else { } if x label 2 { }", "1*4+1*7<=1; 1 2")
	claimed(t, "1 2", "if 1 label 1 { } if 1 label 2 { }", "")
	claimed(t, "1 2", "if 1 label 1 { } else { } if 0 label 2 { }", "1*4+1*7<=1; 1 2")
	claimed(t, "1 2", "if x label 1 { } if y label 2 { }", "")
}

// TestClaimsByVariables has claims that hold because of what was done before. What the first if does is known for certain only if it is taken.
func TestClaimsByVariables(t *testing.T) {
	const later = "if x < 5 label 1 { i = 1 } if i == 0 label 2 { }"
	claimed(t, "1 2", later, "1*4+1*7<=1; 1 2")
	claimed(t, "2 1", later, "1*4+1*7<=1; 2 1")
	claimed(t, "1 2", "if i == 0 label 2 { k = 1 } if x < 5 label 1 { }", "")
	claimed(t, "1 2", "if y label 1 { i = 1 } if x label 3 { i = 0 } if i == 0 label 2 { }", "")
	claimed(t, "1 2", "if y label 1 { a[0] = 1 } if 1 < a[0] label 2 { }", "1*4+1*7<=1; 1 2")
	// Shared arrays can change behind the back of a task.
	claimed(t, "1 2", "lock r { if buf[0] == 0 label 1 { } } lock r { if buf[0] == 1 label 2 { } }", "")
	claimed(t, "1 2", "lock r { i = buf[0] } if i == 0 label 1 { } if i == 1 label 2 { }", "1*4+1*7<=1; 1 2")
}

// TestClaimsOfNestedIfs has ifs in one another, and in locks. One analysis of both is enough, whichever it is.
func TestClaimsOfNestedIfs(t *testing.T) {
	for _, claim := range []string{"1 2", "2 1"} {
		want := "1*4+1*7<=1; " + claim
		claimed(t, claim, "if x label 1 { } else { if y label 2 { } }", want)
		claimed(t, claim, "if x label 2 { } else { if y label 1 { } }", want)
		claimed(t, claim, "if x label 1 { if y label 2 { } }", "")
		claimed(t, claim, "if x label 3 { if y label 1 { } } else { lock r { if y label 2 { } } }", "")
		claimed(t, claim, "if x < 5 label 3 { if y label 1 { } } if 4 < x label 4 { lock r { if y label 2 { } } }", "")
		claimed(t, claim, "lock r { if x < 3 label 1 { i = 4 } } if y label 3 { if i < 4 label 2 { } }", want)
		claimed(t, claim, "if 0 label 3 { if x label 1 { } } else { if x label 2 { } }", want)
		claimed(t, claim, "if x label 1 { i = 1 } if i label 3 { } else { if y label 2 { } }", want)
	}
}

// TestClaimsOfLoops has claims that would hold, but for an if that is in a loop: there it can be passed many times.
func TestClaimsOfLoops(t *testing.T) {
	const loop, apart = "while i < 2 max 2 label 3 { i = i + 1 if x < 5 label 1 { } } ", "if 9 < x label 2 { }"
	claimed(t, "1 2", loop+apart, "")
	claimed(t, "2 1", loop+apart, "")
	claimed(t, "1 2", apart+loop, "")
	claimed(t, "2 1", apart+loop, "")
	claimed(t, "2 1", "if 0 label 1 { } while 0 max 0 label 3 { lock r { if 0 label 2 { } } }", "")
	claimed(t, "1 2", "while i < 2 max 2 label 3 { i = i + 1 if x < 5 label 1 { } else { if y label 2 { } } }", "")
	claimed(t, "1 2, 4 2", "if x < 5 label 4 { } "+loop+apart, "1*7+1*13<=1; 4 2")
	// A loop beside them, or in them, does not matter.
	claimed(t, "1 2", "if x < 5 label 1 { while i < 2 max 2 label 3 { i = i + 1 } } while y max 3 label 4 { y = 0 } if 4 < x label 2 { }", "1*4+1*7<=1; 1 2")
}

func TestErrorsOfProve(t *testing.T) {
	p := program(t, "never 1 2\n", "if x label 1 { } if y label 2 { }")
	for what, ranges := range map[string][]api.Range{
		"none":      nil,
		"one":       full()[:1],
		"three":     append(full(), api.Range{}),
		"back":      {{Lo: 3, Hi: 2}, {Lo: 0, Hi: 0}},
		"below":     {{Lo: -1, Hi: 2}, {Lo: 0, Hi: 0}},
		"above":     {{Lo: 1, Hi: 16}, {Lo: 0, Hi: 0}},
		"of others": {{Lo: 0, Hi: 3}, {Lo: -4, Hi: 0}},
	} {
		if proof, e := Prove(p, 0, ranges); e != api.ErrInput || len(proof.Facts)+len(proof.Most)+len(proof.Natural)+len(proof.Never) != 0 {
			t.Errorf("%s: error %d, %v", what, e, proof)
		}
	}
	if _, e := Prove(p, 1, nil); e != api.ErrTask {
		t.Errorf("no task, and no ranges: error %d", e)
	}
}

// TestProveTasks proves things of one task, whatever the others are.
func TestProveTasks(t *testing.T) {
	p := parsed(t, around+task("t", "var i\n", "if i label 1 { }")+task("u", "input x 0 3\nnever 2 5\n", "if x < 2 label 5 { } if 1 < x label 2 { }")+task("v", "var i\n", "while i < 2 max 2 label 1 { i = i + 1 }"))
	for task, want := range []string{
		ways(1, 1, 0, 1),
		ways(2, 1, 1, 1) + "; " + ways(5, 1, 1, 1) + "; 1*7+1*16<=1; never 2 5",
		ways(1, 1, 2, 1) + "; -2*3+1*4<=0; while 1: 2, natural",
	} {
		ranges, _ := Whole(p, task)
		if proof, e := Prove(p, task, ranges); e != api.OK || report(proof) != want {
			t.Errorf("task %d: error %d, %s, not %s", task, e, report(proof), want)
		}
	}
}

// TestArgumentsStay compares arguments with what they were, also behind changes of the result.
func TestArgumentsStay(t *testing.T) {
	const claims, body = "never 2 1\nnever 1 2\n", "if x < 5 label 2 { i = a[0] } while i < 3 max 5 label 3 { i = i + 1 } if 4 < x label 1 { lock r { buf[0] = 1 } }"
	p, ranges := program(t, claims, body), full()
	var texts []string
	for range 2 {
		proof, e := Prove(p, 0, ranges)
		if e != api.OK {
			t.Fatalf("error %d", e)
		}
		Whole(p, 0)
		Narrow(p, 0, 0)
		Outside(p.Tasks[0], 1)
		texts = append(texts, report(proof))
		for _, f := range proof.Facts {
			for i := range f.Terms {
				f.Terms[i] = api.Term{}
			}
			_ = append(f.Terms, api.Term{Of: 99})
		}
		clear(proof.Facts)
		clear(proof.Most)
		clear(proof.Natural)
		clear(proof.Never)
	}
	if texts[0] != texts[1] || !slices.Equal(ranges, full()) || fmt.Sprintf("%+v", p) != fmt.Sprintf("%+v", program(t, claims, body)) {
		t.Errorf("%v, %v, %v", texts, ranges, p)
	}
}

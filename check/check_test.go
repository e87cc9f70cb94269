package check

import (
	"math"
	"reflect"
	"slices"
	"strconv"
	"strings"
	"testing"
	"timebound/api"
	"timebound/parse"
)

func n(v int) api.Expr { return api.Expr{Kind: api.ExprNum, Num: v} }

func v(s string) api.Expr { return api.Expr{Kind: api.ExprName, Name: s} }

func at(s string, e api.Expr) api.Expr {
	return api.Expr{Kind: api.ExprIndex, Name: s, Args: one(e)}
}

func bin(op int, a, b api.Expr) api.Expr {
	return api.Expr{Kind: api.ExprBin, Op: op, Args: []api.Expr{a, b}}
}

func one(e api.Expr) []api.Expr { return []api.Expr{e} }

func set(name string, e api.Expr) api.Stmt {
	return api.Stmt{Kind: api.StmtSet, Name: name, Value: one(e)}
}

func store(name string, i, e api.Expr) api.Stmt {
	return api.Stmt{Kind: api.StmtStore, Name: name, Index: one(i), Value: one(e)}
}

func choice(e api.Expr, label int, then, other []api.Stmt) api.Stmt {
	return api.Stmt{Kind: api.StmtIf, Value: one(e), Label: label, Then: then, Else: other}
}

func loop(e api.Expr, most, label int, l ...api.Stmt) api.Stmt {
	return api.Stmt{Kind: api.StmtWhile, Value: one(e), Max: most, Label: label, Then: l}
}

func lock(name string, l ...api.Stmt) api.Stmt {
	return api.Stmt{Kind: api.StmtLock, Name: name, Then: l}
}

func listOf(s api.Stmt) []api.Stmt { return []api.Stmt{s} }

const (
	around = "resource r\nresource q\nshared buf 8 r\nshared que 4 q\n"
	own    = "input x 0 15\ninput y -3 3\nvar i\nvar k\narray a 8\narray b 16\nmode fast x 0 7\nmode slow y -3 3\n"
)

// source is the text of a program with one task.
func source(around, own, body string) string {
	return around + "task t period 200 deadline 150 priority 3 jitter 5\n" + own + "body\n" + body + "\nend\n"
}

// parsed is the program of a text.
func parsed(t *testing.T, text string) api.Program {
	t.Helper()
	p, line, e := parse.Program(text)
	if e != api.OK {
		t.Fatalf("%q: error %d in line %d", text, e, line)
	}
	return p
}

// right is a program of three tasks that is right.
func right(t *testing.T) api.Program {
	t.Helper()
	p := parsed(t, source(around, own+"never 1 2\nnever 3 1\n", `
i = a[x] - 1
if x < y label 1 { x = (3) k = -k } else { if i label 3 { } }
if y label 2 { b[i] = a[b[k]] }
while i != 0 max 32 label 12 { i = i + 1 lock q { que[i] = que[i - 1] + b[0] } }
lock r { buf[buf[0]] = buf[i] if buf[1] label 4 { buf[0] = x } }`))
	for _, name := range []string{"u", "w"} {
		p.Tasks = append(p.Tasks, parsed(t, source(around, own+"never 1 2\nnever 3 1\n", "if 1 label 1 { } if 1 label 2 { lock r { buf[0] = i } } if 1 label 3 { a[0] = 2 }")).Tasks...)
		p.Tasks[len(p.Tasks)-1].Name = name
	}
	return p
}

func answers(t *testing.T, what string, p api.Program, want api.Errno) {
	t.Helper()
	if e := Program(p); e != want {
		t.Errorf("%s: error %d, not %d", what, e, want)
	}
}

// checks answers for a task that is written as a text.
func checks(t *testing.T, around, own, body string, want api.Errno) {
	t.Helper()
	text := source(around, own, body)
	answers(t, strconv.Quote(text), parsed(t, text), want)
}

func TestRight(t *testing.T) {
	answers(t, "the program of these tests", right(t), api.OK)
	checks(t, "", "", "", api.OK)
	checks(t, around, own, "", api.OK)
	checks(t, "resource r\n", "", "lock r { }", api.OK)
}

// P5.2: ErrForm and ErrLimit of print

func TestErrorsOfPrint(t *testing.T) {
	for what, change := range map[string]func(p *api.Program){
		"a name":              func(p *api.Program) { p.Tasks[0].Name = "T" },
		"an empty name":       func(p *api.Program) { p.Resources[1] = "" },
		"a keyword":           func(p *api.Program) { p.Tasks[2].Vars[0] = "end" },
		"a statement":         func(p *api.Program) { p.Tasks[1].Body = []api.Stmt{{}} },
		"a negative period":   func(p *api.Program) { p.Tasks[1].Period = -1 },
		"a negative size":     func(p *api.Program) { p.Shared[0].Array.Size = -1 },
		"a negative Max":      func(p *api.Program) { p.Tasks[0].Body = []api.Stmt{loop(n(1), -1, 1)} },
		"a negative label":    func(p *api.Program) { p.Tasks[0].Body = []api.Stmt{loop(n(1), 1, -1)} },
		"a negative claim":    func(p *api.Program) { p.Tasks[0].Claims[0].A = -1 },
		"an operator":         func(p *api.Program) { p.Tasks[0].Body = []api.Stmt{set("i", bin(15, n(1), n(1)))} },
		"two values":          func(p *api.Program) { p.Tasks[0].Body[0].Value = []api.Expr{n(1), n(1)} },
		"a number":            func(p *api.Program) { p.Tasks[0].Body = []api.Stmt{set("i", n(1<<31))} },
		"the least word":      func(p *api.Program) { p.Tasks[0].Body = []api.Stmt{set("i", n(-1<<31))} },
		"an input's number":   func(p *api.Program) { p.Tasks[0].Inputs[0].Hi = 1 << 31 },
		"many, and no form":   func(p *api.Program) { p.Resources = make([]string, 9) },
		"no tasks, no form":   func(p *api.Program) { p.Tasks, p.Resources[0] = nil, "R" },
		"a form behind depth": func(p *api.Program) { p.Tasks[0].Body = []api.Stmt{nest(9), {}} },
	} {
		p := right(t)
		change(&p)
		answers(t, what, p, api.ErrForm)
	}
	// Expressions can have any numbers that can be written.
	p := right(t)
	p.Tasks[0].Body = []api.Stmt{set("i", n(-1<<31+1)), set("i", n(1<<31-1))}
	p.Tasks[0].Claims = nil
	answers(t, "the numbers at the ends", p, api.OK)
	p.Resources = slices.Repeat([]string{"r"}, api.MaxSource)
	answers(t, "a program that is too long", p, api.ErrLimit)
}

// nest returns a statement within others, of that depth in all.
func nest(depth int) api.Stmt {
	s := set("i", n(1))
	for d := range depth - 1 {
		if s = choice(v("i"), 12-d%12, listOf(s), nil); d%2 == 1 {
			s.Then, s.Else = s.Else, s.Then
		}
	}
	return s
}

// chain returns an expression of a depth.
func chain(depth int) api.Expr {
	e := v("i")
	for range depth - 1 {
		e = bin(api.Add, n(1), e)
	}
	return e
}

// P5.2: ErrLimit

// lines returns so many lines of declarations: each # is a letter, from a on.
func lines(count int, line string) string {
	var text strings.Builder
	for i := range count {
		text.WriteString(strings.ReplaceAll(line, "#", string(rune('a'+i))) + "\n")
	}
	return text.String()
}

func TestLimits(t *testing.T) {
	limit := func(count, most int) api.Errno {
		if count > most {
			return api.ErrLimit
		}
		return api.OK
	}
	for count := range 70 {
		if count < 26 {
			checks(t, lines(count, "resource #"), "", "", limit(count, 4))
			checks(t, "resource r\n"+lines(count, "shared # 8 r"), "", "", limit(count, 4))
			checks(t, "", lines(count, "input # 0 1"), "", limit(count, 4))
			checks(t, "", lines(count, "var #"), "", limit(count, 12))
			checks(t, "", "input zz 0 1\ninput zzz 0 1\n"+lines(count, "var #"), "", limit(count+2, 12))
			checks(t, "", lines(count, "array # 8"), "", limit(count, 4))
			checks(t, around, lines(count, "array # 8"), "", limit(count, 4))
			checks(t, "", "input zz 0 1\n"+lines(count, "mode # zz 0 1"), "", limit(count, 3))
			checks(t, "", lines(count, "never 1 2"), "if 1 label 1 { } if 1 label 2 { }", limit(count, 4))
			p := right(t)
			p.Tasks = nil
			for i := range count {
				p.Tasks = append(p.Tasks, right(t).Tasks[0])
				p.Tasks[i].Name = string(rune('a' + i))
			}
			if count > 0 {
				answers(t, strconv.Itoa(count)+" tasks", p, limit(count, 6))
			}
		}
		checks(t, "", "var i\n", strings.Repeat("i = 1\n", count), limit(count, 60))
		within := "if 1 label 1 { " + strings.Repeat("i = 1\n", count) + " } else { while 1 max 0 label 2 { i = 1 i = 1 } }"
		checks(t, "", "var i\n", within, limit(count+4, 60))
	}
	answers(t, "nothing", api.Program{}, api.ErrLimit)
	p := right(t)
	p.Tasks = nil
	answers(t, "no tasks", p, api.ErrLimit)
}

func TestDepths(t *testing.T) {
	for depth := 1; depth < 30; depth++ {
		want := api.OK
		if depth > api.MaxDepth {
			want = api.ErrLimit
		}
		for what, s := range map[string]api.Stmt{
			"statements":     nest(depth),
			"an expression":  set("i", chain(depth)),
			"an index":       store("a", chain(depth), n(1)),
			"a stored value": store("a", n(1), chain(depth)),
			"a condition":    choice(chain(depth), 1, nil, nil),
			"a loop's":       loop(chain(depth), 1, 1),
		} {
			p := right(t)
			p.Tasks[0].Claims, p.Tasks[0].Body = nil, []api.Stmt{set("i", n(1)), s}
			answers(t, what+" of the depth "+strconv.Itoa(depth), p, want)
		}
	}
}

// P5.2: ErrName

func TestNamesOfDeclarations(t *testing.T) {
	checks(t, "resource r\nresource q\nresource r\n", "", "", api.ErrName)
	checks(t, "resource r\nshared b 8 q\n", "", "", api.ErrName)
	checks(t, "shared b 8 r\n", "", "", api.ErrName)
	checks(t, "resource r\nshared b 8 r\nshared b 8 r\n", "", "", api.ErrName)
	checks(t, "resource r\nshared b 8 r\nshared c 8 b\n", "", "", api.ErrName)
	// What is no name of a task can be one of it, too; so can the names of two tasks be the same.
	checks(t, "resource t\nresource x\nshared fast 8 x\n", "input x 0 1\nvar t\nvar r\nmode fast x 0 1\nmode x x 0 1\nmode t x 0 1\n", "lock x { fast[x] = t } lock t { r = 1 }", api.OK)
	declarations := []string{"input x 0 1\n", "var x\n", "array x 8\n"}
	for i, first := range declarations {
		for _, second := range declarations[i:] {
			checks(t, "", first+second, "", api.ErrName)
		}
		checks(t, "resource r\nshared x 8 r\n", first, "", api.ErrName)
		checks(t, "resource x\n", first, "", api.OK)
	}
	p := right(t)
	for i := range p.Tasks {
		for j := range p.Tasks {
			if i != j {
				p := right(t)
				p.Tasks[i].Name = p.Tasks[j].Name
				answers(t, "two tasks", p, api.ErrName)
			}
		}
	}
	p.Tasks[0].Name = "buf"
	p.Tasks[1].Name = "x"
	p.Tasks[2].Name = "r"
	answers(t, "tasks with names of other things", p, api.OK)
}

func TestNamesOfModes(t *testing.T) {
	checks(t, "", own+"mode fast y 0 0\n", "", api.ErrName)
	checks(t, "", own+"mode slow y 0 0\n", "", api.ErrName)
	checks(t, "", own+"mode other y 0 0\n", "", api.OK)
	for _, name := range []string{"z", "i", "a", "buf", "r", "t", "fast", "m"} {
		checks(t, around, own+"mode m "+name+" 0 0\n", "", api.ErrName)
	}
	p := right(t)
	p.Tasks[1].Inputs, p.Tasks[1].Vars = p.Tasks[1].Inputs[:1], append(p.Tasks[1].Vars, "y")
	answers(t, "an input of another task", p, api.ErrName)
}

func TestNamesOfStatements(t *testing.T) {
	variables, arrays, others := []string{"x", "y", "i", "k"}, []string{"a", "b"}, []string{"z", "r", "q", "t", "fast"}
	locked := []string{"buf"}
	bodies := func(where ...string) []string {
		var list []string
		for _, s := range where {
			list = append(list, s, "i = 1 "+s, "lock q { "+s+" }", "if 1 label 1 { "+s+" }", "if 1 label 1 { } else { "+s+" }", "while 1 max 1 label 1 { if 1 label 2 { "+s+" } }",
				"if 1 label 1 { if 1 label 2 { "+s+" i = 1 } i = 1 } else { i = 1 } i = 1")
		}
		return list
	}
	for _, body := range bodies("# = 1", "i = #", "i = 1 + (2 - -#)", "i = a[#]", "a[#] = 1", "a[1] = #", "i = a[b[#] + 1]", "if # label 11 { }", "while # max 1 label 11 { }", "while # max 0 label 11 { }") {
		for _, name := range slices.Concat(variables, arrays, others, locked) {
			want := api.ErrName
			if slices.Contains(variables, name) {
				want = api.OK
			}
			checks(t, around, own, strings.ReplaceAll(body, "#", name), want)
		}
	}
	for _, body := range bodies("#[0] = 1", "i = #[0]", "i = 1 + (2 - -#[0])", "i = a[#[0]]", "a[#[0]] = 1", "a[1] = #[0]", "if #[0] label 11 { }", "while #[0] max 1 label 11 { }") {
		for _, name := range slices.Concat(variables, arrays, others) {
			want := api.ErrName
			if slices.Contains(arrays, name) {
				want = api.OK
			}
			checks(t, around, own, strings.ReplaceAll(body, "#", name), want)
		}
	}
	for _, body := range []string{"lock # { }", "if 1 label 1 { } else { lock # { } }", "while 1 max 1 label 1 { lock # { i = 1 } }"} {
		for _, name := range slices.Concat(variables, arrays, others, locked) {
			want := api.ErrName
			if name == "r" || name == "q" {
				want = api.OK
			}
			checks(t, around, own, strings.ReplaceAll(body, "#", name), want)
		}
	}
	p := right(t)
	p.Tasks[1].Vars = append(p.Tasks[1].Vars, "other")
	p.Tasks[2].Body = []api.Stmt{set("other", n(1))}
	answers(t, "a variable of another task", p, api.ErrName)
}

// P5.2: ErrRange

// ranges answers for numbers that must be in a range.
func ranges(t *testing.T, what string, lo, hi int, change func(t *api.Task, x int)) {
	t.Helper()
	for _, number := range []int{0, 1, 2, hi / 2, lo, hi, max(lo, 1) - 1, hi + 1, 2 * hi, 1<<31 - 1} {
		want := api.OK
		if number < lo || number > hi {
			want = api.ErrRange
		}
		for i := range 3 {
			p := right(t)
			change(&p.Tasks[i], number)
			answers(t, what+" "+strconv.Itoa(number), p, want)
		}
	}
}

func TestRangesOfTasks(t *testing.T) {
	ranges(t, "period", 150, api.MaxPeriod, func(t *api.Task, x int) { t.Period = x })
	ranges(t, "all of it", 1, api.MaxPeriod, func(t *api.Task, x int) { t.Period, t.Deadline, t.Jitter = x, x, x })
	ranges(t, "period and deadline", 5, api.MaxPeriod, func(t *api.Task, x int) { t.Period, t.Deadline = x, x })
	ranges(t, "deadline", 1, 200, func(t *api.Task, x int) { t.Deadline = x })
	ranges(t, "priority", 1, 15, func(t *api.Task, x int) { t.Priority = x })
	ranges(t, "jitter", 0, 200, func(t *api.Task, x int) { t.Jitter = x })
	ranges(t, "Max", 0, 32, func(t *api.Task, x int) { t.Body = append(t.Body, loop(n(1), x, 9)) })
	ranges(t, "Max of a nested one", 0, 32, func(t *api.Task, x int) {
		t.Body = append(t.Body, choice(n(1), 10, nil, []api.Stmt{lock("r", loop(n(1), x, 9))}))
	})
}

func TestSizes(t *testing.T) {
	for size := range 70 {
		want := api.ErrRange
		if slices.Contains([]int{1, 2, 4, 8, 16}, size) {
			want = api.OK
		}
		for i := range 3 {
			for j := range 2 {
				p := right(t)
				p.Tasks[i].Arrays[j].Size = size
				answers(t, "size "+strconv.Itoa(size), p, want)
			}
		}
		for i := range 2 {
			p := right(t)
			p.Shared[i].Array.Size = size
			answers(t, "shared size "+strconv.Itoa(size), p, want)
		}
	}
	for _, size := range []int{1 << 10, 1 << 20, 1 << 30, 1<<31 - 1} {
		p := right(t)
		p.Shared[1].Array.Size = size
		answers(t, "shared size "+strconv.Itoa(size), p, api.ErrRange)
	}
}

func TestRangesOfInputs(t *testing.T) {
	const top = 1<<31 - 1
	for lo := -4; lo <= 4; lo++ {
		for hi := -4; hi <= 4; hi++ {
			want := api.OK
			if lo > hi {
				want = api.ErrRange
			}
			for i := range 3 {
				p := right(t)
				p.Tasks[i].Modes = nil
				p.Tasks[i].Inputs[1] = api.Input{Name: "y", Lo: lo, Hi: hi}
				answers(t, "an input", p, want)
			}
			if lo < -3 || hi > 3 {
				want = api.ErrRange
			}
			for i := range 3 {
				for j := range 2 {
					p := right(t)
					p.Tasks[i].Modes[j] = api.Mode{Name: "m", Input: "y", Lo: lo, Hi: hi}
					answers(t, "a mode from "+strconv.Itoa(lo)+" to "+strconv.Itoa(hi), p, want)
				}
			}
		}
	}
	p := right(t)
	p.Tasks[0].Inputs[0].Lo, p.Tasks[0].Inputs[0].Hi = -top, top
	answers(t, "the widest range", p, api.OK)
	p.Tasks[0].Modes[0].Lo, p.Tasks[0].Modes[0].Hi = -top, top
	answers(t, "the widest mode", p, api.OK)
	p.Tasks[0].Inputs[0].Lo++
	answers(t, "a mode wider by one", p, api.ErrRange)
	p.Tasks[0].Inputs[0].Lo--
	p.Tasks[0].Inputs[0].Hi--
	answers(t, "a mode wider by one", p, api.ErrRange)
}

// P5.2: ErrLabel

func TestLabelsOfPrograms(t *testing.T) {
	for _, label := range []int{0, 1, 2, 11, 12, 13, 14, 1000, 1<<31 - 1} {
		want := api.ErrLabel
		if 1 <= label && label <= 12 {
			want = api.OK
		}
		text := strconv.Itoa(label)
		for _, s := range []string{"if 0 label # { }", "while 0 max 0 label # { }", "lock r { if 0 label # { } }", "if 0 label 5 { while 0 max 0 label # { } }", "if 0 label 5 { } else { if 0 label # { } }"} {
			checks(t, around, "", strings.ReplaceAll(s, "#", text), want)
		}
	}
	for _, s := range []string{
		"if 0 label # { } if 0 label 5 { }", "if 0 label # { if 0 label 5 { } }", "if 0 label # { } else { while 0 max 1 label 5 { } }",
		"while 0 max 1 label # { } while 0 max 1 label 5 { }", "while 0 max 1 label # { if 0 label 5 { } }", "while 0 max 1 label # { } if 0 label 5 { }",
		"if 0 label 1 { if 0 label # { } } else { lock r { if 0 label 5 { } } }",
	} {
		checks(t, around, "", strings.ReplaceAll(s, "#", "5"), api.ErrLabel)
		checks(t, around, "", strings.ReplaceAll(s, "#", "6"), api.OK)
	}
	all := lines(12, "if 0 label # { }")
	for i := range 12 {
		all = strings.Replace(all, "label "+string(rune('a'+i)), "label "+strconv.Itoa(12-i), 1)
	}
	checks(t, "", "", all, api.OK)
	checks(t, "", "", all+"if 0 label 13 { }", api.ErrLabel)
}

func TestClaims(t *testing.T) {
	body := "if 1 label 1 { if 1 label 2 { } } else { lock r { if 1 label 12 { } } } while 1 max 1 label 3 { if 1 label 4 { } }"
	ifs := []int{1, 2, 12, 4}
	for a := range 15 {
		for b := range 15 {
			want := api.ErrLabel
			if a != b && slices.Contains(ifs, a) && slices.Contains(ifs, b) {
				want = api.OK
			}
			claim := "never " + strconv.Itoa(a) + " " + strconv.Itoa(b) + "\n"
			checks(t, around, claim, body, want)
			checks(t, around, "never 1 2\n"+claim+"never 2 1\n", body, want)
		}
	}
	checks(t, around, "never 1 2\nnever 1 2\nnever 2 1\nnever 1 2\n", body, api.OK)
	checks(t, around, "never 1 2147483647\n", body, api.ErrLabel)
	p := right(t)
	p.Tasks[1].Body = p.Tasks[1].Body[1:]
	answers(t, "a label of another task", p, api.ErrLabel)
}

// P5.2: ErrLock

func TestLocks(t *testing.T) {
	for _, s := range []string{"buf[0] = 1", "i = buf[0]", "i = 1 - buf[0]", "i = a[buf[0]]", "a[buf[0]] = 1", "a[0] = buf[0]", "if buf[0] label 1 { }", "while buf[0] max 1 label 1 { }", "while buf[0] max 0 label 1 { }"} {
		for _, c := range []struct {
			around string
			want   api.Errno
		}{
			{"#", api.ErrLock}, {"lock r { #", api.OK}, {"lock q { #", api.ErrLock}, {"lock r { } #", api.ErrLock}, {"# lock r {", api.ErrLock},
			{"lock r { i = 1 if 1 label 5 { #", api.OK}, {"lock q { if 1 label 5 { #", api.ErrLock},
			{"lock r { if 1 label 5 { } else { #", api.OK}, {"if 1 label 5 { lock r { } } else { #", api.ErrLock},
			{"lock r { while 1 max 1 label 5 { #", api.OK}, {"while 1 max 1 label 5 { lock r { } #", api.ErrLock}, {"while 1 max 1 label 5 { lock r { #", api.OK},
			{"lock r { i = 1 } lock r { #", api.OK}, {"lock r { i = 1 } lock q { #", api.ErrLock}, {"lock q { i = 1 } lock r { #", api.OK},
		} {
			body := strings.ReplaceAll(c.around, "#", s)
			for range strings.Count(body, "{") - strings.Count(body, "}") {
				body += " }"
			}
			checks(t, around, own, body, c.want)
		}
	}
	checks(t, around, own, "lock r { buf[que[0]] = 1 }", api.ErrLock)
	checks(t, around, own, "lock q { buf[que[0]] = 1 }", api.ErrLock)
	checks(t, around, own, "lock r { buf[0] = 1 } lock q { que[0] = 1 }", api.OK)
	checks(t, "resource r\nshared buf 8 r\nshared que 4 r\n", own, "lock r { buf[que[0]] = 1 }", api.OK)
	p := right(t)
	p.Tasks[2].Body[1].Then[0].Name = "q"
	answers(t, "a lock of another resource in the last task", p, api.ErrLock)
}

func TestLocksWithinLocks(t *testing.T) {
	for _, inner := range []string{"r", "q"} {
		for _, body := range []string{
			"lock r { lock # { } }", "lock r { i = 1 lock # { i = 1 } }", "lock r { if 1 label 1 { lock # { } } }", "lock r { if 1 label 1 { } else { lock # { } } }",
			"lock r { while 1 max 0 label 1 { lock # { } } }", "if 1 label 1 { lock q { if 1 label 2 { while 1 max 1 label 3 { lock # { } } } } }",
		} {
			checks(t, around, own, strings.ReplaceAll(body, "#", inner), api.ErrLock)
		}
		for _, body := range []string{"lock r { } lock # { }", "if 1 label 1 { lock r { } } else { lock # { } }", "if 1 label 1 { lock r { } } lock # { }", "while 1 max 1 label 1 { lock r { } lock # { } }"} {
			checks(t, around, own, strings.ReplaceAll(body, "#", inner), api.OK)
		}
	}
}

// P5.2: ErrWeight

func TestWeightsOfPrograms(t *testing.T) {
	heavy := func(rest int) []api.Stmt {
		// 2 + 33 * (2 + 1 + 57) is 1982.
		l := []api.Stmt{loop(n(1), 32, 1, slices.Repeat([]api.Stmt{store("a", n(1), n(1))}, 19)...)}
		for ; rest >= 2; rest -= 2 {
			l = append(l, set("i", n(1)))
		}
		if rest == 1 {
			l[len(l)-1] = store("a", n(1), n(1))
		}
		return l
	}
	for rest := 2; rest < 30; rest++ {
		want := api.OK
		if 1982+rest > api.MaxWeight {
			want = api.ErrWeight
		}
		for i := range 3 {
			p := right(t)
			p.Tasks[i].Claims, p.Tasks[i].Body = nil, heavy(rest)
			answers(t, "the weight "+strconv.Itoa(1982+rest), p, want)
		}
	}
	p := right(t)
	for i := range p.Tasks {
		p.Tasks[i].Claims, p.Tasks[i].Body = nil, heavy(18)
	}
	answers(t, "three tasks of the greatest weight", p, api.OK)
}

// P5.2: the order of errors

// faults are changes of a task of the program right: in each line those that lead to one error. They leave those of the lines above right.
var faults = []struct {
	want    api.Errno
	changes []func(p *api.Program, t *api.Task)
}{
	{api.ErrForm, []func(p *api.Program, t *api.Task){
		func(p *api.Program, t *api.Task) { t.Name += "A" },
		func(p *api.Program, t *api.Task) { t.Body = append(t.Body, api.Stmt{}) },
	}},
	{api.ErrLimit, []func(p *api.Program, t *api.Task){
		func(p *api.Program, t *api.Task) { t.Body = append(t.Body, set("i", chain(9))) },
		func(p *api.Program, t *api.Task) { t.Body = append(t.Body, nest(9)) },
		func(p *api.Program, t *api.Task) { t.Body = append(t.Body, slices.Repeat(listOf(nest(1)), 61)...) },
		func(p *api.Program, t *api.Task) { t.Claims = append(t.Claims, slices.Repeat(t.Claims, 4)...) },
		func(p *api.Program, t *api.Task) { p.Resources = append(p.Resources, "one", "two", "three") },
	}},
	{api.ErrName, []func(p *api.Program, t *api.Task){
		func(p *api.Program, t *api.Task) { t.Vars = append(t.Vars, "x") },
		func(p *api.Program, t *api.Task) { t.Body = append(t.Body, set("none", n(1))) },
		func(p *api.Program, t *api.Task) { t.Body = append(t.Body, lock("none")) },
		func(p *api.Program, t *api.Task) { t.Modes[0].Input = "i" },
		func(p *api.Program, t *api.Task) { p.Shared = append(p.Shared, p.Shared[0]) },
	}},
	{api.ErrRange, []func(p *api.Program, t *api.Task){
		func(p *api.Program, t *api.Task) { t.Arrays[0].Size = 3 },
		func(p *api.Program, t *api.Task) { t.Deadline = t.Period + 1 },
		func(p *api.Program, t *api.Task) { t.Body = append(t.Body, loop(n(1), 33, 11)) },
		func(p *api.Program, t *api.Task) { t.Modes[0].Hi = 100 },
		func(p *api.Program, t *api.Task) { p.Shared[0].Array.Size = 0 },
	}},
	{api.ErrLabel, []func(p *api.Program, t *api.Task){
		func(p *api.Program, t *api.Task) { t.Body = append(t.Body, loop(n(1), 1, 1)) },
		func(p *api.Program, t *api.Task) { t.Body = append(t.Body, choice(n(1), 13, nil, nil)) },
		func(p *api.Program, t *api.Task) { t.Claims[0].A = 10 },
	}},
	{api.ErrLock, []func(p *api.Program, t *api.Task){
		func(p *api.Program, t *api.Task) { t.Body = append(t.Body, store("buf", n(1), n(1))) },
		func(p *api.Program, t *api.Task) { t.Body = append(t.Body, lock("q", lock("q"))) },
	}},
	{api.ErrWeight, []func(p *api.Program, t *api.Task){
		func(p *api.Program, t *api.Task) {
			t.Body = append(t.Body, loop(n(1), 32, 9, loop(n(1), 32, 10, set("i", n(1)))))
		},
	}},
}

func TestOrderOfErrors(t *testing.T) {
	for i, first := range faults {
		for a, one := range first.changes {
			for where := range 3 {
				p := right(t)
				one(&p, &p.Tasks[where])
				answers(t, strconv.Itoa(i)+"."+strconv.Itoa(a), p, first.want)
				for j, later := range faults[i+1:] {
					for b, other := range later.changes {
						for elsewhere := range 3 {
							p := right(t)
							other(&p, &p.Tasks[elsewhere])
							one(&p, &p.Tasks[where])
							answers(t, strconv.Itoa(i)+"."+strconv.Itoa(a)+" behind "+strconv.Itoa(i+1+j)+"."+strconv.Itoa(b), p, first.want)
						}
					}
				}
			}
		}
	}
}

// P5.1: Find

func TestFind(t *testing.T) {
	p := api.Program{Tasks: []api.Task{{Name: "a"}, {Name: "b"}, {Name: "a"}, {Name: ""}, {Name: "B"}}}
	for name, want := range map[string]int{"a": 0, "b": 1, "": 3, "B": 4} {
		if i, ok := Find(p, name); i != want || !ok {
			t.Errorf("Find %q: %d, %v", name, i, ok)
		}
	}
	for _, name := range []string{"A", "aa", "c", " a", "a\x00", "if"} {
		if i, ok := Find(p, name); i != 0 || ok {
			t.Errorf("Find %q: %d, %v", name, i, ok)
		}
	}
	for _, name := range []string{"", "a"} {
		if i, ok := Find(api.Program{Resources: []string{"a"}}, name); i != 0 || ok {
			t.Errorf("Find %q without tasks: %d, %v", name, i, ok)
		}
	}
}

// Rules

// TestArgumentsStay also shows that results do not depend on earlier calls.
func TestArgumentsStay(t *testing.T) {
	for i := range len(faults) + 1 {
		make := func() api.Program {
			p := right(t)
			if i < len(faults) {
				faults[i].changes[0](&p, &p.Tasks[1])
			}
			return p
		}
		p := make()
		e := Program(p)
		weight, labels := Weight(p.Tasks[0].Body), Labels(p.Tasks[0].Body)
		Find(p, "u")
		if !reflect.DeepEqual(p, make()) {
			t.Fatalf("program %d is changed", i)
		}
		if Program(p) != e || Weight(p.Tasks[0].Body) != weight || !slices.Equal(Labels(p.Tasks[0].Body), labels) {
			t.Errorf("program %d has other results", i)
		}
		clear(labels)
		if again := Labels(p.Tasks[0].Body); len(again) == 0 || slices.Equal(again, labels) {
			t.Errorf("program %d: a result is kept: %v", i, again)
		}
	}
}

func TestProgramOfAnything(t *testing.T) {
	l := make([]api.Expr, 2)
	for i := range l {
		l[i] = bin(api.Add, n(1), n(1))
		l[i].Args = l
	}
	b := make([]api.Stmt, 3)
	for i := range b {
		b[i] = choice(n(1), 1, b, b)
	}
	p := right(t)
	p.Tasks[1].Body = b
	answers(t, "statements that are in themselves", p, api.ErrLimit)
	p.Tasks[1].Body = listOf(set("i", l[0]))
	answers(t, "an expression that is in itself", p, api.ErrLimit)
	for _, number := range []int{-1, 1 << 31, 1 << 32, math.MaxInt, math.MinInt} {
		p := right(t)
		p.Tasks[0].Period, p.Tasks[0].Deadline = number, number
		answers(t, "a period "+strconv.Itoa(number), p, api.ErrForm)
	}
}

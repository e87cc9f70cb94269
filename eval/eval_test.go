package eval

import (
	"fmt"
	"math"
	"reflect"
	"slices"
	"testing"
	"timebound/api"
	"timebound/parse"
)

const (
	around = "resource r\nresource q\nshared buf 4 r\nshared que 2 q\n"
	own    = "input x 0 15\ninput y -3 3\nvar i\nvar k\narray a 4\narray b 1\n"
)

// parsed is the program of a text.
func parsed(t *testing.T, text string) api.Program {
	t.Helper()
	p, line, e := parse.Program(text)
	if e != api.OK {
		t.Fatalf("%q: error %d in line %d", text, e, line)
	}
	return p
}

func task(name, own, body string) string {
	return "task " + name + " period 200 deadline 150 priority 3 jitter 5\n" + own + "body\n" + body + "\nend\n"
}

// program is one with a task of the declarations of these tests.
func program(t *testing.T, body string) api.Program {
	t.Helper()
	return parsed(t, around+task("t", own, body))
}

func shared() [][]int { return [][]int{{10, 20, 30, 40}, {5, -6}} }

// after is what a job leads to from the inputs 6 and -2: parts that are nil are as they were in the beginning.
type after struct {
	vars   []int
	a, b   []int
	buf    []int
	que    []int
	counts map[int]int
	steps  int
}

func or(l []int, other ...int) []int {
	if l == nil {
		return other
	}
	return l
}

func (w after) outcome() api.Outcome {
	counts := make([]int, 39)
	counts[0] = 1
	for point, count := range w.counts {
		counts[point] = count
	}
	return api.Outcome{
		Vars: or(w.vars, 6, -2, 0, 0), Arrays: [][]int{or(w.a, 0, 0, 0, 0), or(w.b, 0)},
		Shared: [][]int{or(w.buf, 10, 20, 30, 40), or(w.que, 5, -6)}, Counts: counts, Steps: w.steps,
	}
}

// same reports whether two outcomes are equal, nil and empty lists, too.
func same(a, b api.Outcome) bool { return fmt.Sprintf("%+v", a) == fmt.Sprintf("%+v", b) }

// leads runs bodies from the inputs 6 and -2.
func leads(t *testing.T, list map[string]after) {
	t.Helper()
	for body, want := range list {
		if o, e := Run(program(t, body), 0, []int{6, -2}, shared()); e != api.OK || !same(o, want.outcome()) {
			t.Errorf("%q: error %d, %+v, not %+v", body, e, o, want.outcome())
		}
	}
}

// P6.2: statements

func TestAssignments(t *testing.T) {
	leads(t, map[string]after{
		"":                           {},
		"i = 5":                      {vars: []int{6, -2, 5, 0}, steps: 1},
		"i = k + 1 k = i + 1":        {vars: []int{6, -2, 1, 2}, steps: 2},
		"i = 3 i = i * i - y":        {vars: []int{6, -2, 11, 0}, steps: 2},
		"x = 100 y = x + y":          {vars: []int{100, 98, 0, 0}, steps: 2},
		"i = 2147483647 + 1 k = 1/0": {vars: []int{6, -2, -1 << 31, 0}, steps: 2},
		"i = a[3] + b[9] k = -7 % 2": {vars: []int{6, -2, 0, -1}, steps: 2},
	})
}

func TestElementsOfJobs(t *testing.T) {
	leads(t, map[string]after{
		"a[0] = 1 a[3] = x":                          {a: []int{1, 0, 0, 6}, steps: 2},
		"a[x] = 5 a[y] = 7":                          {a: []int{0, 0, 7, 0}, steps: 2},
		"a[4] = 1 a[5] = 2 a[-1] = 4 a[-6] = 3":      {a: []int{1, 2, 3, 4}, steps: 4},
		"a[-2147483647 - 1] = 9 a[2147483647] = 8":   {a: []int{9, 0, 0, 8}, steps: 2},
		"b[0] = 1 b[7] = b[-3] + 1 i = b[x]":         {vars: []int{6, -2, 2, 0}, b: []int{2}, steps: 3},
		"a[1] = a[1] + 1 a[a[1]] = a[1] + 4":         {a: []int{0, 5, 0, 0}, steps: 2},
		"a[0] = 1 a[a[0]] = 2 a[a[1]] = a[a[0]]":     {a: []int{1, 2, 2, 0}, steps: 3},
		"a[2] = 3 i = a[-2] k = a[a[2] - 1] * a[10]": {vars: []int{6, -2, 3, 9}, a: []int{0, 0, 3, 0}, steps: 3},
	})
}

func TestIfs(t *testing.T) {
	leads(t, map[string]after{
		"if x < 7 label 4 { i = 1 } else { k = 1 }": {vars: []int{6, -2, 1, 0}, counts: map[int]int{12: 1, 13: 1}, steps: 2},
		"if x < 6 label 4 { i = 1 } else { k = 1 }": {vars: []int{6, -2, 0, 1}, counts: map[int]int{12: 1, 14: 1}, steps: 2},
		"if y label 1 { i = 1 }":                    {vars: []int{6, -2, 1, 0}, counts: map[int]int{3: 1, 4: 1}, steps: 2},
		"if k label 12 { i = 1 } k = 2":             {vars: []int{6, -2, 0, 2}, counts: map[int]int{36: 1, 38: 1}, steps: 2},
		"if 1 label 2 { } if 0 label 3 { }":         {counts: map[int]int{6: 1, 7: 1, 9: 1, 11: 1}, steps: 2},
		"if 1 label 2 { if 0 label 5 { } else { i = 1 } i = i + 1 } else { if 1 label 6 { } }": {vars: []int{6, -2, 2, 0}, counts: map[int]int{6: 1, 7: 1, 15: 1, 17: 1}, steps: 4},
		// The condition is not looked at again.
		"if x label 1 { x = 0 i = 1 } else { i = 2 }": {vars: []int{0, -2, 1, 0}, counts: map[int]int{3: 1, 4: 1}, steps: 3},
	})
}

func TestWhiles(t *testing.T) {
	leads(t, map[string]after{
		"i = 0 while i < 3 max 2 label 1 { i = i + 1 }":  {vars: []int{6, -2, 2, 0}, counts: map[int]int{3: 1, 4: 2, 5: 1}, steps: 5},
		"while i < 3 max 3 label 1 { i = i + 1 }":        {vars: []int{6, -2, 3, 0}, counts: map[int]int{3: 1, 4: 3, 5: 1}, steps: 6},
		"while i < 3 max 4 label 1 { i = i + 1 }":        {vars: []int{6, -2, 3, 0}, counts: map[int]int{3: 1, 4: 3, 5: 1}, steps: 7},
		"while i < 3 max 32 label 12 { i = i + 1 }":      {vars: []int{6, -2, 3, 0}, counts: map[int]int{36: 1, 37: 3, 38: 1}, steps: 7},
		"while 1 max 32 label 2 { i = i + 2 }":           {vars: []int{6, -2, 64, 0}, counts: map[int]int{6: 1, 7: 32, 8: 1}, steps: 64},
		"while y max 5 label 2 { }":                      {counts: map[int]int{6: 1, 7: 5, 8: 1}, steps: 5},
		"while 0 max 5 label 2 { i = 1 }":                {counts: map[int]int{6: 1, 8: 1}, steps: 1},
		"while 1 max 0 label 2 { i = 1 } k = 1":          {vars: []int{6, -2, 0, 1}, counts: map[int]int{6: 1, 8: 1}, steps: 1},
		"while 1 max 1 label 2 { i = 1 }":                {vars: []int{6, -2, 1, 0}, counts: map[int]int{6: 1, 7: 1, 8: 1}, steps: 2},
		"while x max 9 label 3 { x = x - 2 i = i + 10 }": {vars: []int{0, -2, 30, 0}, counts: map[int]int{9: 1, 10: 3, 11: 1}, steps: 10},
		// The rounds of a loop are counted anew each time that it is reached.
		"while i < 2 max 5 label 1 { while k < 3 max 2 label 2 { k = k + 1 } i = i + 1 k = 0 }": {vars: []int{6, -2, 2, 0}, counts: map[int]int{3: 1, 4: 2, 5: 1, 6: 2, 7: 4, 8: 2}, steps: 3 + 2*(2+2+2)},
		"while i < 3 max 9 label 5 { if i == 1 label 7 { a[i] = 1 } else { b[0] = b[0] + 1 } i = i + 1 }": {
			vars: []int{6, -2, 3, 0}, a: []int{0, 1, 0, 0}, b: []int{2}, counts: map[int]int{15: 1, 16: 3, 17: 1, 21: 3, 22: 1, 23: 2}, steps: 4 + 3*3,
		},
		"if 0 label 1 { } else { while 1 max 2 label 2 { lock r { i = i + 1 } } }": {vars: []int{6, -2, 2, 0}, counts: map[int]int{3: 1, 5: 1, 6: 1, 7: 2, 8: 1}, steps: 1 + 4},
	})
}

func TestLocks(t *testing.T) {
	leads(t, map[string]after{
		"lock r { }": {},
		"lock r { i = buf[2] } lock q { k = que[3] }":                                               {vars: []int{6, -2, 30, -6}, steps: 2},
		"lock r { buf[x] = buf[1] * 2 } i = 1":                                                      {vars: []int{6, -2, 1, 0}, buf: []int{10, 20, 40, 40}, steps: 2},
		"lock q { que[y] = que[-1] - 1 } lock q { que[1] = que[0] }":                                {que: []int{-7, -7}, steps: 2},
		"while i < 3 max 3 label 1 { lock r { buf[i] = buf[i] + i } i = i + 1 lock q { } }":         {vars: []int{6, -2, 3, 0}, buf: []int{10, 21, 32, 40}, counts: map[int]int{3: 1, 4: 3, 5: 1}, steps: 9},
		"lock r { if buf[0] == 10 label 1 { while 1 max 2 label 2 { buf[3] = 0 } } else { i = 1 }}": {buf: []int{10, 20, 30, 0}, counts: map[int]int{3: 1, 4: 1, 6: 1, 7: 2, 8: 1}, steps: 5},
	})
}

// TestDepthOfJobs has statements and expressions of the greatest depths that check accepts.
func TestDepthOfJobs(t *testing.T) {
	leads(t, map[string]after{
		"i = 1 + (1 + (1 + (1 + (1 + b[k - k]))))":      {vars: []int{6, -2, 5, 0}, steps: 1},
		"i = 1 + (1 + (1 + (1 + (1 + (1 + (1 + x))))))": {vars: []int{6, -2, 13, 0}, steps: 1},
		"lock r { if 1 label 1 { if 1 label 2 { if 1 label 3 { if 1 label 4 { if 1 label 5 { if 1 label 6 { i = 1 }}}}}}}": {
			vars: []int{6, -2, 1, 0}, counts: map[int]int{3: 1, 4: 1, 6: 1, 7: 1, 9: 1, 10: 1, 12: 1, 13: 1, 15: 1, 16: 1, 18: 1, 19: 1}, steps: 7,
		},
	})
}

// P6.2: tasks, inputs and shared arrays

func TestTasks(t *testing.T) {
	p := parsed(t, around+
		task("one", "input x 0 3\nvar i\narray a 2\n", "i = x + 1 a[i] = 3 if i label 1 { }")+
		task("two", "var x\nvar z\n", "z = x + 2 lock q { que[0] = z }")+
		task("three", "", "")+
		task("four", "input b 1 1\ninput a -1 -1\nvar y\nvar x\narray k 1\narray i 8\n", "x = a - b i[x] = 7 k[x] = 8 y = 9"))
	for i, c := range []struct {
		inputs []int
		want   api.Outcome
	}{
		{[]int{2}, api.Outcome{Vars: []int{2, 3}, Arrays: [][]int{{0, 3}}, Shared: shared(), Counts: []int{1, 0, 0, 1, 1}, Steps: 3}},
		{nil, api.Outcome{Vars: []int{0, 2}, Shared: [][]int{{10, 20, 30, 40}, {2, -6}}, Counts: []int{1}, Steps: 2}},
		{nil, api.Outcome{Shared: shared(), Counts: []int{1}}},
		{[]int{1, -1}, api.Outcome{Vars: []int{1, -1, 9, -2}, Arrays: [][]int{{8}, {0, 0, 0, 0, 0, 0, 7, 0}}, Shared: shared(), Counts: []int{1}, Steps: 4}},
	} {
		c.want.Counts = append(c.want.Counts, make([]int, 39-len(c.want.Counts))...)
		if o, e := Run(p, i, c.inputs, shared()); e != api.OK || !same(o, c.want) {
			t.Errorf("task %d: error %d, %+v, not %+v", i, e, o, c.want)
		}
	}
}

func TestNoSharedArrays(t *testing.T) {
	p := parsed(t, task("t", "", ""))
	for _, none := range [][][]int{nil, {}} {
		for _, inputs := range [][]int{nil, {}} {
			if o, e := Run(p, 0, inputs, none); e != api.OK || !same(o, api.Outcome{Counts: append([]int{1}, make([]int, 38)...)}) {
				t.Errorf("error %d, %+v", e, o)
			}
		}
	}
}

// errs runs the first task of a program that has the inputs x and y.
func errs(t *testing.T, what string, p api.Program, task int, inputs []int, lists [][]int, want api.Errno) {
	t.Helper()
	o, e := Run(p, task, inputs, lists)
	if e != want || e != api.OK && !same(o, api.Outcome{}) {
		t.Errorf("%s: error %d, not %d; %+v", what, e, want, o)
	}
}

func TestErrorsOfTasks(t *testing.T) {
	p := program(t, "i = x")
	errs(t, "the only task", p, 0, []int{0, 0}, shared(), api.OK)
	for _, task := range []int{1, -1, 2, 6, 1 << 32, math.MaxInt, math.MinInt} {
		errs(t, "another task", p, task, []int{0, 0}, shared(), api.ErrTask)
	}
}

func TestErrorsOfInputs(t *testing.T) {
	p := program(t, "i = x")
	for _, x := range []int{0, 15, 7, -1, 16, 1 << 32, 1<<32 + 3, math.MaxInt, math.MinInt} {
		for _, y := range []int{0, -3, 3, -4, 4, 1<<32 - 2, math.MaxInt, math.MinInt} {
			want := api.ErrInput
			if 0 <= x && x <= 15 && -3 <= y && y <= 3 {
				want = api.OK
			}
			errs(t, fmt.Sprint("the inputs ", x, y), p, 0, []int{x, y}, shared(), want)
		}
	}
	for _, inputs := range [][]int{nil, {}, {1}, {1, 1, 1}, {1, 1, 0, 0}} {
		errs(t, fmt.Sprint("the inputs ", inputs), p, 0, inputs, shared(), api.ErrInput)
	}
	wide := parsed(t, task("t", "input x -2147483647 2147483647\n", ""))
	for _, x := range []int{-1<<31 + 1, 1<<31 - 1, -1 << 31, 1 << 31} {
		want := api.ErrInput
		if -1<<31 < x && x < 1<<31 {
			want = api.OK
		}
		errs(t, fmt.Sprint("the input ", x), wide, 0, []int{x}, nil, want)
	}
}

// TestModesAreNoRanges has an input outside of the range of a mode: a job need not be in it.
func TestModesAreNoRanges(t *testing.T) {
	p := parsed(t, task("t", "input x 0 9\nmode m x 2 3\n", ""))
	errs(t, "no mode", p, 0, []int{9}, nil, api.OK)
}

func TestErrorsOfSharedArrays(t *testing.T) {
	p := program(t, "i = x")
	for what, lists := range map[string][][]int{
		"none": nil, "none at all": {}, "one": {{1, 2, 3, 4}}, "the other one": {{1, 2}}, "three": {{1, 2, 3, 4}, {1, 2}, {1}}, "one and nothing": {{1, 2, 3, 4}, {1, 2}, nil},
		"too few": {{1, 2, 3}, {1, 2}}, "too many": {{1, 2, 3, 4, 5}, {1, 2}}, "too few in the last": {{1, 2, 3, 4}, {1}}, "too many in the last": {{1, 2, 3, 4}, {1, 2, 3}},
		"nothing": {nil, {1, 2}}, "nothing in the last": {{1, 2, 3, 4}, {}}, "another order": {{1, 2}, {1, 2, 3, 4}},
		"no words": {{1, 2, 3, 1 << 31}, {1, 2}}, "no words in the last": {{1, 2, 3, 4}, {-1<<31 - 1, 2}}, "none of them": {{math.MaxInt, 2, 3, 4}, {1, math.MinInt}}, "the same word": {{1<<32 + 1, 2, 3, 4}, {1, 2}},
	} {
		errs(t, what, p, 0, []int{0, 0}, lists, api.ErrForm)
	}
	ends := [][]int{{-1 << 31, 1<<31 - 1, 0, -1}, {1<<31 - 1, -1 << 31}}
	if o, e := Run(p, 0, []int{0, 0}, ends); e != api.OK || !reflect.DeepEqual(o.Shared, ends) {
		t.Errorf("all words: error %d, %v", e, o.Shared)
	}
}

// TestErrorsOfPrograms has a program with each error of check, and also all other errors.
func TestErrorsOfPrograms(t *testing.T) {
	loop := "while 1 max 32 label 1 { while 1 max 32 label 2 { i = 1 } }"
	for want, p := range map[api.Errno]api.Program{
		api.ErrForm: {Tasks: []api.Task{{Name: "T"}}}, api.ErrLimit: {}, api.ErrName: program(t, "z = 1"), api.ErrRange: program(t, "while 1 max 33 label 1 { }"),
		api.ErrLabel: program(t, "if 1 label 13 { }"), api.ErrLock: program(t, "i = buf[0]"), api.ErrWeight: program(t, loop),
	} {
		errs(t, "a program that is wrong", p, 0, []int{0, 0}, shared(), want)
		errs(t, "a program that is wrong", p, 9, nil, nil, want)
	}
	// What is wrong in another task matters, too.
	p := parsed(t, task("t", "", "")+task("u", "", "z = 1"))
	errs(t, "another task that is wrong", p, 0, nil, nil, api.ErrName)
}

func TestOrderOfErrors(t *testing.T) {
	wrong, right := program(t, "z = 1"), program(t, "i = 1")
	for i := range 16 {
		p, task, inputs, lists, want := right, 0, []int{0, 0}, shared(), api.OK
		if i&8 != 0 {
			lists, want = lists[:1], api.ErrForm
		}
		if i&4 != 0 {
			inputs, want = inputs[:1], api.ErrInput
		}
		if i&2 != 0 {
			task, want = 1, api.ErrTask
		}
		if i&1 != 0 {
			p, want = wrong, api.ErrName
		}
		errs(t, fmt.Sprintf("errors %b", i), p, task, inputs, lists, want)
		if i&4 != 0 {
			errs(t, fmt.Sprintf("errors %b, with a value", i), p, task, []int{0, 9}, lists, want)
		}
	}
}

// P6.3

func TestPoints(t *testing.T) {
	for _, task := range []api.Task{{}, program(t, "if 1 label 7 { }").Tasks[0], {Body: make([]api.Stmt, 100)}} {
		if got := Points(task); got != 39 {
			t.Errorf("%d points", got)
		}
	}
}

// Rules

func TestArgumentsOfRunStay(t *testing.T) {
	body := "x = 1 y = 2 a[0] = 3 b[0] = 4 lock r { buf[0] = 5 } lock q { que[0] = 6 } while i < 2 max 3 label 1 { i = i + 1 }"
	p, inputs, lists := program(t, body), []int{6, -2}, shared()
	first, e := Run(p, 0, inputs, lists)
	if e != api.OK || !reflect.DeepEqual(p, program(t, body)) || !slices.Equal(inputs, []int{6, -2}) || !reflect.DeepEqual(lists, shared()) {
		t.Fatalf("error %d, or an argument is changed: %v, %v", e, inputs, lists)
	}
	kept := fmt.Sprintf("%+v", first)
	second, _ := Run(p, 0, inputs, lists)
	// No list of a result is part of another one, of an argument, or of a later result.
	for i, list := range slices.Concat([][]int{first.Vars, first.Counts, inputs}, first.Arrays, first.Shared, lists) {
		for j := range list {
			list[j] = 1000 * (i + 1)
		}
		for j := range cap(list) - len(list) {
			list[:cap(list)][len(list)+j] = -1
		}
	}
	if got := fmt.Sprintf("%+v", second); got != kept {
		t.Errorf("%s, not %s", got, kept)
	}
	for i, list := range slices.Concat([][]int{first.Vars, first.Counts, inputs}, first.Arrays, first.Shared, lists) {
		if slices.ContainsFunc(list, func(n int) bool { return n != 1000*(i+1) }) {
			t.Errorf("list %d shares memory: %v", i, list)
		}
	}
	if third, _ := Run(p, 0, []int{6, -2}, shared()); fmt.Sprintf("%+v", third) != kept {
		t.Errorf("%+v, not %s", third, kept)
	}
}

func TestRunOfAnything(t *testing.T) {
	l := make([]api.Stmt, 3)
	for i := range l {
		l[i] = api.Stmt{Kind: api.StmtIf, Value: []api.Expr{n(1)}, Label: 1, Then: l, Else: l}
	}
	p := program(t, "")
	p.Tasks[0].Body = l
	errs(t, "statements in themselves", p, 0, []int{0, 0}, shared(), api.ErrLimit)
	e := make([]api.Expr, 2)
	e[0], e[1] = bin(api.Add), bin(api.Add)
	e[0].Args, e[1].Args = e, e
	p.Tasks[0].Body = []api.Stmt{{Kind: api.StmtSet, Name: "i", Value: e[:1]}}
	errs(t, "an expression in itself", p, 0, []int{0, 0}, shared(), api.ErrLimit)
	for kind := range 7 {
		p.Tasks[0].Body = []api.Stmt{{Kind: kind}}
		errs(t, "a statement without parts", p, 0, []int{0, 0}, shared(), api.ErrForm)
	}
}

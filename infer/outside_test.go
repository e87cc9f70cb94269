package infer

import (
	"math"
	"math/rand"
	"slices"
	"testing"
	"timebound/api"
)

// P10.2: Outside

// outside looks for all labels from 0 to 13: those that are wanted, and no others, are outside.
func outside(t *testing.T, what string, body []api.Stmt, want ...int) {
	t.Helper()
	for label := range 14 {
		if got := Outside(api.Task{Body: body}, label); got != slices.Contains(want, label) {
			t.Errorf("%s: label %d: %v", what, label, got)
		}
	}
}

func TestOutside(t *testing.T) {
	for body, want := range map[string][]int{
		"":                                {},
		"i = 1 a[1] = 2 lock r { i = 3 }": {},
		"if x label 1 { }":                {1},
		"while x max 0 label 12 { }":      {12},
		"if x label 2 { } while x max 1 label 4 { } if x label 3 { }": {2, 3, 4},
		"i = 1 if x label 2 { i = 2 if x label 3 { } }":               {2, 3},
		"if x label 2 { } else { i = 2 if x label 3 { } }":            {2, 3},
		"lock r { if x label 5 { lock q { } } }":                      {5},
		"while x max 1 label 1 { if x label 2 { } }":                  {1},
		"while x max 1 label 1 { while x max 1 label 2 { if x label 3 { } } if x label 4 { } else { if x label 5 { } } } if x label 6 { }":                                   {1, 6},
		"while x max 1 label 1 { lock r { if x label 2 { } } }":                                                                                                              {1},
		"if x label 1 { while x max 3 label 2 { if x label 3 { } } if x label 4 { } } else { lock r { while x max 3 label 5 { i = 1 if x label 6 { } } if x label 7 { } } }": {1, 2, 4, 5, 7},
	} {
		outside(t, body, parsed(t, task("t", "", body)).Tasks[0].Body, want...)
	}
}

// TestOutsideOfAnything has statements that are in no right program.
func TestOutsideOfAnything(t *testing.T) {
	outside(t, "no task", nil)
	outside(t, "other kinds", []api.Stmt{{Label: 1}, {Kind: api.StmtSet, Label: 2}, {Kind: api.StmtStore, Label: 3}, {Kind: api.StmtLock, Label: 4}, {Kind: 6, Label: 5}, {Kind: -1, Label: 6}})
	outside(t, "label 0", []api.Stmt{{Kind: api.StmtIf}}, 0)
	outside(t, "blocks of other kinds", []api.Stmt{{Then: []api.Stmt{{Kind: api.StmtIf, Label: 1}}, Else: []api.Stmt{{Kind: api.StmtWhile, Label: 2}}}}, 1, 2)
	inner := []api.Stmt{{Kind: api.StmtIf, Label: 3}}
	outside(t, "a while with Else", []api.Stmt{{Kind: api.StmtWhile, Label: 1, Else: inner}}, 1)
	outside(t, "one label inside and then outside", []api.Stmt{{Kind: api.StmtWhile, Label: 1, Then: inner}, {Kind: api.StmtIf, Label: 3}}, 1, 3)
	outside(t, "one label outside and then inside", []api.Stmt{{Kind: api.StmtWhile, Label: 3, Then: inner}}, 3)
	outside(t, "one list inside and outside", []api.Stmt{{Kind: api.StmtWhile, Then: inner}, {Kind: api.StmtLock, Then: inner}}, 0, 3)
	for _, label := range []int{-1, 13, math.MinInt, math.MaxInt} {
		task := api.Task{Body: []api.Stmt{{Kind: api.StmtIf, Label: label}}}
		if !Outside(task, label) || Outside(task, label^1) {
			t.Errorf("label %d", label)
		}
	}
}

// TestOutsideOfDeepStatements has a statement at each depth, behind Then or Else.
func TestOutsideOfDeepStatements(t *testing.T) {
	for _, kind := range []int{api.StmtIf, api.StmtWhile} {
		for depth := 1; depth <= 25; depth++ {
			then, other := []api.Stmt{{Kind: kind, Label: 7}}, []api.Stmt{{}, {Kind: kind, Label: 7}}
			for range depth - 1 {
				then = []api.Stmt{{Kind: api.StmtLock, Then: then}}
				other = []api.Stmt{{}, {Kind: api.StmtIf, Label: 1, Else: other}, {}}
			}
			if Outside(api.Task{Body: then}, 7) != (depth <= 20) || Outside(api.Task{Body: other}, 7) != (depth <= 20) {
				t.Errorf("kind %d, depth %d", kind, depth)
			}
		}
	}
}

// TestOutsideOfListsThatAreInThemselves would not end if each way down were followed.
func TestOutsideOfListsThatAreInThemselves(t *testing.T) {
	l := make([]api.Stmt, 40)
	for i := range l {
		l[i] = api.Stmt{Kind: api.StmtIf, Label: i % 4, Then: l, Else: l[i:]}
	}
	l[39].Label = 13
	outside(t, "in itself", l, 0, 1, 2, 3, 13)
	// A list that begins like another one, but is longer.
	last := []api.Stmt{{Kind: api.StmtLock}, {Kind: api.StmtIf, Label: 8}}
	outside(t, "a part first", []api.Stmt{{Then: last[:1]}, {Then: last}}, 8)
	outside(t, "a part in a part", []api.Stmt{{Then: last[:1], Else: last}}, 8)
	// A list that is in two statements of each level.
	l = []api.Stmt{{Kind: api.StmtWhile, Label: 9}}
	for range 19 {
		l = []api.Stmt{{Kind: api.StmtIf, Label: 2, Then: l, Else: l}, {Kind: api.StmtLock, Then: l}}
	}
	outside(t, "in many others", l, 2, 9)
	// One that is first found too deep: it is looked at where it is found first.
	deep := []api.Stmt{{Kind: api.StmtIf, Label: 5}}
	for range 19 {
		deep = []api.Stmt{{Then: deep}}
	}
	outside(t, "too deep", []api.Stmt{{Then: deep}})
	outside(t, "too deep, but elsewhere not", []api.Stmt{{Then: deep}, {Then: deep[0].Then}}, 5)
}

// stmts returns statements of all kinds, some of them without meaning.
func stmts(r *rand.Rand, depth int) []api.Stmt {
	var l []api.Stmt
	for range r.Intn(4) {
		if depth == 0 {
			break
		}
		s := api.Stmt{Kind: r.Intn(7), Label: r.Intn(14), Then: stmts(r, depth-1)}
		if s.Kind != api.StmtWhile {
			s.Else = stmts(r, depth-1)
		}
		l = append(l, s)
	}
	return l
}

// seen returns the labels of ifs and whiles that are outside, in the plainest way.
func seen(l []api.Stmt) []int {
	var labels []int
	for _, s := range l {
		switch s.Kind {
		case api.StmtWhile:
			labels = append(labels, s.Label)
			continue
		case api.StmtIf:
			labels = append(labels, s.Label)
		}
		labels = slices.Concat(labels, seen(s.Then), seen(s.Else))
	}
	return labels
}

func TestOutsideAgainstPlainWay(t *testing.T) {
	r := rand.New(rand.NewSource(10))
	for range 2000 {
		l := stmts(r, r.Intn(7))
		outside(t, "random", l, seen(l)...)
	}
}

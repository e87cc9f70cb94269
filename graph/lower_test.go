package graph

import (
	"fmt"
	"math"
	"slices"
	"strings"
	"testing"
	"timebound/api"
	"timebound/parse"
)

const (
	around = "resource r\nresource q\nshared buf 4 r\nshared que 2 q\n"
	own    = "input x 0 15\ninput y -3 3\nvar i\nvar k\narray a 4\narray b 8\n"
)

// parsed is the program of a text.
func parsed(t *testing.T, text string) api.Program {
	t.Helper()
	p, line, e := parse.Program(text)
	if e != api.OK {
		t.Fatalf("%q: error %d in line %d", text, e, line)
	}
	return p
}

func task(name, own, body string) string {
	return "task " + name + " period 200 deadline 150 priority 3 jitter 5\n" + own + "body\n" + body + "\nend\n"
}

// program is one with a task of the declarations of these tests.
func program(t *testing.T, body string) api.Program {
	t.Helper()
	return parsed(t, around+task("t", own, body))
}

// proof is one in which each while has Most 20, and those of some labels are natural.
func proof(natural ...int) api.Proof {
	p := api.Proof{Most: slices.Repeat(to(20), 13), Natural: make([]bool, 13)}
	for _, label := range natural {
		p.Natural[label] = true
	}
	return p
}

// show writes an operation: variables are numbers, and constants have a # before them.
func show(o api.Op) string {
	signs := []string{"", "+", "-", "*", "/", "%", "&", "|", "^", "<<", ">>", "<", "<=", "==", "!="}
	switch o {
	case api.Op{Kind: api.OpConst, Dst: o.Dst, Imm: o.Imm}:
		return fmt.Sprintf("%d=#%d", o.Dst, o.Imm)
	case api.Op{Kind: api.OpCopy, Dst: o.Dst, A: o.A}:
		return fmt.Sprintf("%d=%d", o.Dst, o.A)
	case api.Op{Kind: api.OpBin, Dst: o.Dst, A: o.A, B: o.B, Imm: o.Imm}:
		return fmt.Sprintf("%d=%d%s%d", o.Dst, o.A, signs[o.Imm], o.B)
	case api.Op{Kind: api.OpLoad, Dst: o.Dst, A: o.A, Imm: o.Imm}:
		return fmt.Sprintf("%d=a%d[%d]", o.Dst, o.Imm, o.A)
	case api.Op{Kind: api.OpStore, A: o.A, B: o.B, Imm: o.Imm}:
		return fmt.Sprintf("a%d[%d]=%d", o.Imm, o.A, o.B)
	case api.Op{Kind: api.OpLock, Imm: o.Imm}:
		return fmt.Sprintf("lock %d", o.Imm)
	case api.Op{Kind: api.OpUnlock, Imm: o.Imm}:
		return fmt.Sprintf("unlock %d", o.Imm)
	}
	return text(o)
}

// blocks writes the blocks of a graph, each one with its operations and successors.
func blocks(g api.Graph) string {
	var out []string
	for i, b := range g.Blocks {
		l := []string{fmt.Sprintf("%d:", i)}
		for _, o := range b.Ops {
			l = append(l, show(o))
		}
		switch len(b.Next) {
		case 0:
			l = append(l, "end")
		case 1:
			l = append(l, fmt.Sprintf("to %d", b.Next[0]))
		default:
			l = append(l, fmt.Sprintf("if %d to %v", b.Cond, b.Next))
		}
		out = append(out, strings.Join(l, " "))
	}
	return strings.Join(out, "; ")
}

// rest writes the points that have blocks, and the heads.
func rest(g api.Graph) string {
	var l []string
	for point, list := range g.Points {
		if len(list) > 0 {
			l = append(l, fmt.Sprintf("%d%v", point, list))
		}
	}
	for _, h := range g.Heads {
		l = append(l, fmt.Sprintf("%d*%d", h.Block, h.Max))
	}
	return strings.Join(l, " ")
}

// lowered is a graph that must be there, and valid.
func lowered(t *testing.T, p api.Program, task int, proof api.Proof) api.Graph {
	t.Helper()
	g, e := Lower(p, task, proof)
	if e != api.OK || Check(g) != api.OK {
		t.Fatalf("error %d, check %d", e, Check(g))
	}
	return g
}

// P12.3: Lower

// TestExpressionsAndAssignments has x, y, i and k as the variables 0 to 3, and intermediate ones from 4 on.
func TestExpressionsAndAssignments(t *testing.T) {
	for body, want := range map[string]string{
		"":                               "0: end",
		"i = 3":                          "0: 4=#3 2=4 end",
		"k = -2147483647":                "0: 4=#-2147483647 3=4 end",
		"x = 2147483647":                 "0: 4=#2147483647 0=4 end",
		"y = k":                          "0: 4=3 1=4 end",
		"i = a[x]":                       "0: 4=0 4=a0[4] 2=4 end",
		"i = b[3]":                       "0: 4=#3 4=a1[4] 2=4 end",
		"i = a[b[y]]":                    "0: 4=1 4=a1[4] 4=a0[4] 2=4 end",
		"i = x + y":                      "0: 4=0 5=1 4=4+5 2=4 end",
		"i = x - y - 3":                  "0: 4=0 5=1 4=4-5 5=#3 4=4-5 2=4 end",
		"i = x - (y - 3)":                "0: 4=0 5=1 6=#3 5=5-6 4=4-5 2=4 end",
		"i = x * y / 2 % k":              "0: 4=0 5=1 4=4*5 5=#2 4=4/5 5=3 4=4%5 2=4 end",
		"i = x & y << 1 >> k":            "0: 4=0 5=1 4=4&5 5=#1 4=4<<5 5=3 4=4>>5 2=4 end",
		"i = x | y ^ k":                  "0: 4=0 5=1 4=4|5 5=3 4=4^5 2=4 end",
		"i = x < y":                      "0: 4=0 5=1 4=4<5 2=4 end",
		"i = x <= y":                     "0: 4=0 5=1 4=4<=5 2=4 end",
		"i = x == y":                     "0: 4=0 5=1 4=4==5 2=4 end",
		"i = x != y":                     "0: 4=0 5=1 4=4!=5 2=4 end",
		"i = -x":                         "0: 4=#0 5=0 4=4-5 2=4 end",
		"i = a[x + 1] + b[a[y] * 2]":     "0: 4=0 5=#1 4=4+5 4=a0[4] 5=1 5=a0[5] 6=#2 5=5*6 5=a1[5] 4=4+5 2=4 end",
		"a[x] = y":                       "0: 4=0 5=1 a0[4]=5 end",
		"b[1] = -7":                      "0: 4=#1 5=#-7 a1[4]=5 end",
		"b[x + 1] = k - (y * 2)":         "0: 4=0 5=#1 4=4+5 5=3 6=1 7=#2 6=6*7 5=5-6 a1[4]=5 end",
		"a[a[i]] = b[k]":                 "0: 4=2 4=a0[4] 5=3 5=a1[5] a0[4]=5 end",
		"i = 1 k = i a[i] = k":           "0: 4=#1 2=4 4=2 3=4 4=2 5=3 a0[4]=5 end",
		"lock r { i = buf[x] }":          "0: to 1; 1: lock 0 4=0 4=a2[4] 2=4 unlock 0 to 2; 2: end",
		"lock q { que[x] = y }":          "0: to 1; 1: lock 1 4=0 5=1 a3[4]=5 unlock 1 to 2; 2: end",
		"i = 1 lock q { k = 2 } i = 3":   "0: 4=#1 2=4 to 1; 1: lock 1 4=#2 3=4 unlock 1 to 2; 2: 4=#3 2=4 end",
		"lock r { } lock q { }":          "0: to 1; 1: lock 0 unlock 0 to 2; 2: to 3; 3: lock 1 unlock 1 to 4; 4: end",
		"a[0] = x + (y + (i + (k + 1)))": "0: 4=#0 5=0 6=1 7=2 8=3 9=#1 8=8+9 7=7+8 6=6+7 5=5+6 a0[4]=5 end",
	} {
		g := lowered(t, program(t, body), 0, proof())
		if blocks(g) != want || rest(g) != "0[0]" {
			t.Errorf("%q: %s\n     %s\nnot: %s", body, rest(g), blocks(g), want)
		}
		if g.Vars != 15 || g.Keep != 4 || g.Shared != 2 || len(g.Points) != 39 {
			t.Errorf("%q: %d variables, %d kept, %d shared, %d points", body, g.Vars, g.Keep, g.Shared, len(g.Points))
		}
		if want := []api.Input{{Name: "x", Lo: 0, Hi: 15}, {Name: "y", Lo: -3, Hi: 3}}; !slices.Equal(g.Inputs, want) {
			t.Errorf("%q: inputs %v", body, g.Inputs)
		}
		if want := []api.Array{{Name: "a", Size: 4}, {Name: "b", Size: 8}, {Name: "buf", Size: 4}, {Name: "que", Size: 2}}; !slices.Equal(g.Arrays, want) {
			t.Errorf("%q: arrays %v", body, g.Arrays)
		}
	}
}

// TestDepth has the deepest expressions: they use intermediate variables up to the level 8, of 11.
func TestDepth(t *testing.T) {
	right, left := "x", "x"
	for range 7 {
		right, left = "(1 + "+right+")", "("+left+" + 1)"
	}
	g := lowered(t, program(t, "a["+right+"] = "+right), 0, proof())
	if want := "0: 4=#1 5=#1 6=#1 7=#1 8=#1 9=#1 10=#1 11=0 10=10+11 9=9+10 8=8+9 7=7+8 6=6+7 5=5+6 4=4+5 5=#1 6=#1 7=#1 8=#1 9=#1 10=#1 11=#1 12=0 11=11+12 10=10+11 9=9+10 8=8+9 7=7+8 6=6+7 5=5+6 a0[4]=5 end"; blocks(g) != want || g.Vars != 15 {
		t.Errorf("to the right: %s", blocks(g))
	}
	g = lowered(t, program(t, "a[0] = "+left), 0, proof())
	if want := "0: 4=#0 5=0" + strings.Repeat(" 6=#1 5=5+6", 7) + " a0[4]=5 end"; blocks(g) != want {
		t.Errorf("to the left: %s", blocks(g))
	}
}

func TestIfs(t *testing.T) {
	for body, want := range map[string][2]string{
		"if x label 2 { }":                                  {"0: 4=0 if 4 to [1 2]; 1: to 3; 2: to 3; 3: end", "0[0] 6[0] 7[1] 8[2]"},
		"if x label 12 { i = 1 }":                           {"0: 4=0 if 4 to [1 2]; 1: 4=#1 2=4 to 3; 2: to 3; 3: end", "0[0] 36[0] 37[1] 38[2]"},
		"if x < 3 label 1 { } else { k = 2 }":               {"0: 4=0 5=#3 4=4<5 if 4 to [1 2]; 1: to 3; 2: 4=#2 3=4 to 3; 3: end", "0[0] 3[0] 4[1] 5[2]"},
		"i = 1 if x label 3 { i = 2 } else { i = 3 } i = 4": {"0: 4=#1 2=4 4=0 if 4 to [1 2]; 1: 4=#2 2=4 to 3; 2: 4=#3 2=4 to 3; 3: 4=#4 2=4 end", "0[0] 9[0] 10[1] 11[2]"},
		"if x label 1 { } if y label 2 { }":                 {"0: 4=0 if 4 to [1 2]; 1: to 3; 2: to 3; 3: 4=1 if 4 to [4 5]; 4: to 6; 5: to 6; 6: end", "0[0] 3[0] 4[1] 5[2] 6[3] 7[4] 8[5]"},
		"if x label 5 { if y label 4 { } i = 1 } else { k = 1 if k label 6 { i = 2 } }": {
			"0: 4=0 if 4 to [1 2]; 1: 4=1 if 4 to [3 4]; 2: 4=#1 3=4 4=3 if 4 to [6 7]; 3: to 5; 4: to 5; 5: 4=#1 2=4 to 9; 6: 4=#2 2=4 to 8; 7: to 8; 8: to 9; 9: end",
			"0[0] 12[1] 13[3] 14[4] 15[0] 16[1] 17[2] 18[2] 19[6] 20[7]"},
		"if x label 7 { lock q { } }": {"0: 4=0 if 4 to [1 2]; 1: to 3; 2: to 5; 3: lock 1 unlock 1 to 4; 4: to 5; 5: end", "0[0] 21[0] 22[1] 23[2]"},
		"lock r { if x label 8 { } }": {"0: to 1; 1: lock 0 4=0 if 4 to [2 3]; 2: to 4; 3: to 4; 4: unlock 0 to 5; 5: end", "0[0] 24[1] 25[2] 26[3]"},
	} {
		g := lowered(t, program(t, body), 0, proof())
		if blocks(g) != want[0] || rest(g) != want[1] || g.Vars != 15 {
			t.Errorf("%q: %d variables\n     %s, %s\nnot: %s, %s", body, g.Vars, blocks(g), rest(g), want[0], want[1])
		}
	}
}

// TestWhiles has loops with and without counters. These are variables between those of the task and the intermediate ones.
func TestWhiles(t *testing.T) {
	for i, c := range []struct {
		body         string
		natural      []int
		vars         int
		blocks, rest string
	}{
		{"while x max 3 label 1 { }", to(1), 15, "0: to 1; 1: 4=0 if 4 to [2 3]; 2: to 1; 3: end", "0[0] 3[0] 4[2] 5[3] 1*3"},
		{"i = 1 while x < 3 max 30 label 12 { k = 1 } i = 2", to(12), 15, "0: 4=#1 2=4 to 1; 1: 4=0 5=#3 4=4<5 if 4 to [2 3]; 2: 4=#1 3=4 to 1; 3: 4=#2 2=4 end", "0[0] 36[0] 37[2] 38[3] 1*20"},
		{"while x max 3 label 1 { }", nil, 16, "0: 4=#0 to 1; 1: 6=#3 5=4<6 if 5 to [2 4]; 2: 5=0 if 5 to [3 4]; 3: 5=#1 4=4+5 to 1; 4: end", "0[0] 3[0] 4[3] 5[4] 1*3"},
		{"i = 1 while x < 3 max 32 label 9 { k = 1 } i = 2", to(1, 2), 16, "0: 5=#1 2=5 4=#0 to 1; 1: 6=#32 5=4<6 if 5 to [2 4]; 2: 5=0 6=#3 5=5<6 if 5 to [3 4]; 3: 5=#1 3=5 5=#1 4=4+5 to 1; 4: 5=#2 2=5 end", "0[0] 27[0] 28[3] 29[4] 1*20"},
		{"while x max 0 label 2 { }", nil, 16, "0: 4=#0 to 1; 1: 6=#0 5=4<6 if 5 to [2 4]; 2: 5=0 if 5 to [3 4]; 3: 5=#1 4=4+5 to 1; 4: end", "0[0] 6[0] 7[3] 8[4] 1*0"},
		{"while x max 2 label 1 { } while y max 3 label 2 { }", to(1, 2), 15, "0: to 1; 1: 4=0 if 4 to [2 3]; 2: to 1; 3: to 4; 4: 4=1 if 4 to [5 6]; 5: to 4; 6: end", "0[0] 3[0] 4[2] 5[3] 6[3] 7[5] 8[6] 1*2 4*3"},
		// The counters of the labels 5 and 2 are the variables 5 and 4; that of the label 7 is not needed.
		{"while x max 2 label 5 { while y max 3 label 2 { i = 1 } k = 2 } while 0 max 4 label 7 { }", to(7), 17,
			"0: 5=#0 to 1; 1: 7=#2 6=5<7 if 6 to [2 4]; 2: 6=0 if 6 to [3 4]; 3: 4=#0 to 5; 4: to 9; " +
				"5: 7=#3 6=4<7 if 6 to [6 8]; 6: 6=1 if 6 to [7 8]; 7: 6=#1 2=6 6=#1 4=4+6 to 5; 8: 6=#2 3=6 6=#1 5=5+6 to 1; " +
				"9: 6=#0 if 6 to [10 11]; 10: to 9; 11: end",
			"0[0] 6[3] 7[7] 8[8] 15[0] 16[3] 17[4] 21[4] 22[10] 23[11] 1*2 5*3 9*4"},
		{"while x max 1 label 1 { if y label 2 { } else { while k max 1 label 3 { } } }", to(1, 2), 16,
			"0: to 1; 1: 5=0 if 5 to [2 3]; 2: 5=1 if 5 to [4 5]; 3: end; 4: to 10; 5: 4=#0 to 6; " +
				"6: 6=#1 5=4<6 if 5 to [7 9]; 7: 5=3 if 5 to [8 9]; 8: 5=#1 4=4+5 to 6; 9: to 10; 10: to 1",
			"0[0] 3[0] 4[2] 5[3] 6[2] 7[4] 8[5] 9[5] 10[8] 11[9] 1*1 6*1"},
		{"if x label 4 { while y max 1 label 3 { } }", nil, 16,
			"0: 5=0 if 5 to [1 2]; 1: 4=#0 to 3; 2: to 7; 3: 6=#1 5=4<6 if 5 to [4 6]; 4: 5=1 if 5 to [5 6]; 5: 5=#1 4=4+5 to 3; 6: to 7; 7: end",
			"0[0] 9[1] 10[5] 11[6] 12[0] 13[1] 14[2] 3*1"},
		{"while x max 1 label 1 { lock q { que[0] = 1 } }", nil, 16,
			"0: 4=#0 to 1; 1: 6=#1 5=4<6 if 5 to [2 4]; 2: 5=0 if 5 to [3 4]; 3: to 5; 4: end; 5: lock 1 5=#0 6=#1 a3[5]=6 unlock 1 to 6; 6: 5=#1 4=4+5 to 1",
			"0[0] 3[0] 4[3] 5[4] 1*1"},
		{"lock r { while x max 1 label 1 { } }", to(1), 15, "0: to 1; 1: lock 0 to 2; 2: 4=0 if 4 to [3 4]; 3: to 2; 4: unlock 0 to 5; 5: end", "0[0] 3[1] 4[3] 5[4] 2*1"},
		{"lock r { while x max 1 label 1 { } }", nil, 16, "0: to 1; 1: lock 0 4=#0 to 2; 2: 6=#1 5=4<6 if 5 to [3 5]; 3: 5=0 if 5 to [4 5]; 4: 5=#1 4=4+5 to 2; 5: unlock 0 to 6; 6: end", "0[0] 3[1] 4[4] 5[5] 2*1"},
	} {
		g := lowered(t, program(t, c.body), 0, proof(c.natural...))
		if blocks(g) != c.blocks || rest(g) != c.rest || g.Vars != c.vars || g.Keep != 4 {
			t.Errorf("while %d: %d variables, not %d\n     %s, %s\nnot: %s, %s", i, g.Vars, c.vars, blocks(g), rest(g), c.blocks, c.rest)
		}
	}
}

// TestMaxOfHeads has a while with a Max below, at and above Most of the proof.
func TestMaxOfHeads(t *testing.T) {
	p := program(t, "while x max 9 label 4 { }")
	for most, want := range map[int]int{0: 0, 1: 1, 8: 8, 9: 9, 10: 9, math.MaxInt: 9} {
		for _, natural := range []bool{false, true} {
			f := proof()
			f.Most[4], f.Natural[4] = most, natural
			if g := lowered(t, p, 0, f); !slices.Equal(g.Heads, []api.Head{{Block: 1, Max: want}}) {
				t.Errorf("Most %d: %v", most, g.Heads)
			}
			// The counter counts up to Max of the text, whatever is proved.
			if g := lowered(t, p, 0, f); !natural && show(g.Blocks[1].Ops[0]) != "6=#9" {
				t.Errorf("Most %d: %s", most, blocks(g))
			}
		}
	}
}

// TestTasks has tasks with other data, and a program without anything shared.
func TestTasks(t *testing.T) {
	p := parsed(t, around+task("t", own, "")+task("u", "", "")+task("v", "var y\nvar x\narray d 16\n", "x = d[y]"))
	g := lowered(t, p, 1, proof())
	if g.Vars != 11 || g.Keep != 0 || g.Shared != 2 || len(g.Inputs) != 0 || len(g.Arrays) != 2 || blocks(g) != "0: end" {
		t.Errorf("no variables: %+v", g)
	}
	g = lowered(t, p, 2, proof())
	if g.Vars != 13 || g.Keep != 2 || len(g.Inputs) != 0 || text(g.Arrays) != "[{Name:d Size:16} {Name:buf Size:4} {Name:que Size:2}]" || blocks(g) != "0: 2=0 2=a0[2] 1=2 end" {
		t.Errorf("others: %+v", g)
	}
	g = lowered(t, parsed(t, task("t", "input x 7 7\n", "if x label 1 { }")), 0, proof())
	if g.Vars != 12 || g.Keep != 1 || g.Shared != 0 || len(g.Arrays) != 0 || text(g.Inputs) != "[{Name:x Lo:7 Hi:7}]" {
		t.Errorf("nothing shared: %+v", g)
	}
	// A resource can have the name of a variable.
	g = lowered(t, parsed(t, "resource x\nresource i\nshared s 1 i\n"+task("t", "var i\nvar x\n", "lock i { s[0] = i x = s[i] }")), 0, proof())
	if want := "0: to 1; 1: lock 1 2=#0 3=0 a0[2]=3 2=0 2=a0[2] 1=2 unlock 1 to 2; 2: end"; blocks(g) != want {
		t.Errorf("a resource with a variable's name: %s", blocks(g))
	}
}

// TestErrorsOfLower has an error each, and those that come behind it.
func TestErrorsOfLower(t *testing.T) {
	p, wide := program(t, ""), program(t, strings.Repeat("lock r { }\n", 32))
	short, long := proof(), proof()
	short.Most, long.Natural = short.Most[1:], append(long.Natural, true)
	none, one := api.Proof{Most: proof().Most}, api.Proof{Natural: proof().Natural}
	for name, c := range map[string]struct {
		p     api.Program
		task  int
		proof api.Proof
		want  api.Errno
	}{
		"no program":                 {api.Program{}, 0, proof(), api.ErrLimit},
		"no program, and nothing":    {api.Program{}, 7, api.Proof{}, api.ErrLimit},
		"a name":                     {program(t, "q = 1"), 0, proof(), api.ErrName},
		"a name, and no task":        {program(t, "q = 1"), 1, api.Proof{}, api.ErrName},
		"a range":                    {program(t, "while x max 33 label 1 { }"), 0, proof(), api.ErrRange},
		"a label":                    {program(t, "if x label 13 { }"), 0, proof(), api.ErrLabel},
		"a lock":                     {program(t, "i = buf[0]"), 0, proof(), api.ErrLock},
		"a weight":                   {program(t, "while x max 32 label 1 { while x max 32 label 2 { i = 1 } }"), 0, proof(), api.ErrWeight},
		"a weight, and wide":         {program(t, "while x max 32 label 1 { while x max 32 label 2 { i = 1 } } "+strings.Repeat("lock r { } ", 40)), 0, proof(), api.ErrWeight},
		"not printable":              {api.Program{Resources: []string{"1"}, Tasks: p.Tasks}, 0, proof(), api.ErrForm},
		"task -1":                    {p, -1, proof(), api.ErrTask},
		"task 1":                     {p, 1, proof(), api.ErrTask},
		"a far task":                 {p, math.MaxInt, proof(), api.ErrTask},
		"a task far below":           {p, math.MinInt, proof(), api.ErrTask},
		"no task, and no proof":      {p, 1, api.Proof{}, api.ErrTask},
		"no proof":                   {p, 0, api.Proof{}, api.ErrForm},
		"a short Most":               {p, 0, short, api.ErrForm},
		"a long Natural":             {p, 0, long, api.ErrForm},
		"no Natural":                 {p, 0, none, api.ErrForm},
		"no Most":                    {p, 0, one, api.ErrForm},
		"no proof, and wide":         {wide, 0, none, api.ErrForm},
		"wide":                       {wide, 0, proof(), api.ErrLimit},
		"wide, and no task":          {wide, 1, proof(), api.ErrTask},
		"another task is not right":  {parsed(t, task("t", "", "")+task("u", "", "i = 1")), 0, proof(), api.ErrName},
		"another task, and the last": {parsed(t, task("t", "", "")+task("u", "", "i = 1")), 2, proof(), api.ErrName},
	} {
		g, e := Lower(c.p, c.task, c.proof)
		if e != c.want || text(g) != text(api.Graph{}) {
			t.Errorf("%s: error %d, not %d, %+v", name, e, c.want, g)
		}
	}
	for _, n := range []int{0, 1, 12, 14, 100} {
		f := proof()
		f.Most = make([]int, n)
		if g, e := Lower(p, 0, f); e != api.ErrForm || text(g) != text(api.Graph{}) {
			t.Errorf("Most of %d: error %d, %+v", n, e, g)
		}
		f = proof()
		f.Natural = make([]bool, n)
		if g, e := Lower(p, 0, f); e != api.ErrForm || text(g) != text(api.Graph{}) {
			t.Errorf("Natural of %d: error %d, %+v", n, e, g)
		}
	}
}

// sum is an expression of n numbers in parentheses, which has 2 n - 1 parts.
func sum(n int) string {
	if n == 1 {
		return "1"
	}
	return "(" + sum(n/2) + "+" + sum(n-n/2) + ")"
}

// TestLimits has as many blocks and operations as there can be, and one more.
func TestLimits(t *testing.T) {
	locks := strings.Repeat("lock r { }\n", 28)
	full := strings.Repeat("i = "+sum(75)+"\n", 3)
	for name, c := range map[string]struct {
		body       string
		natural    []int
		blocks     int
		operations int
		want       api.Errno
	}{
		"64 blocks":                {locks + "while 0 max 1 label 1 { } while 0 max 1 label 2 { }", to(2), 64, 0, api.OK},
		"64 with an if":            {locks + "while 0 max 1 label 1 { } if 0 label 2 { }", nil, 64, 0, api.OK},
		"65 blocks":                {locks + "while 0 max 1 label 1 { } while 0 max 1 label 2 { }", nil, 65, 0, api.ErrLimit},
		"65 of locks":              {locks + strings.Repeat("lock r { }\n", 4), nil, 65, 0, api.ErrLimit},
		"600 operations":           {full + "i = " + sum(75), nil, 1, 600, api.OK},
		"600 in blocks":            {full + "if " + sum(74) + " label 1 { i = 1 } else { }", nil, 4, 599, api.OK},
		"601 operations":           {full + "i = " + sum(64) + "+(a[1]+" + sum(10) + ")", nil, 1, 601, api.ErrLimit},
		"601 in blocks":            {full + "if " + sum(74) + " label 1 { i = 1 } else { i = 2 }", nil, 4, 601, api.ErrLimit},
		"many of both":             {strings.Repeat("i = "+sum(20)+" lock r { }\n", 30), nil, 61, 1260, api.ErrLimit},
		"operations of one loop":   {"while 0 max 1 label 1 { " + strings.Repeat("i = "+sum(72), 4) + " } i = " + sum(9), nil, 5, 600, api.OK},
		"operations of that loop":  {"while 0 max 1 label 1 { " + strings.Repeat("i = "+sum(72), 4) + " } i = a[" + sum(9) + "]", nil, 5, 601, api.ErrLimit},
		"without a counter, fewer": {"while 0 max 1 label 1 { " + strings.Repeat("i = "+sum(72), 4) + " } i = a[" + sum(9) + "]", to(1), 4, 596, api.OK},
	} {
		g, e := Lower(program(t, c.body), 0, proof(c.natural...))
		if e != c.want {
			t.Errorf("%s: error %d, not %d", name, e, c.want)
		}
		if c.want != api.OK {
			continue
		}
		operations := 0
		for _, b := range g.Blocks {
			operations += len(b.Ops)
		}
		if Check(g) != api.OK || len(g.Blocks) != c.blocks || c.operations > 0 && operations != c.operations {
			t.Errorf("%s: check %d, %d blocks, %d operations", name, Check(g), len(g.Blocks), operations)
		}
	}
}

// TestLoweredIsNew changes what was returned: neither the program nor another list of it changes.
func TestLoweredIsNew(t *testing.T) {
	body := "if x label 1 { a[x] = 1 } while y max 3 label 2 { k = 1 }"
	for _, p := range []api.Program{program(t, body+" lock r { buf[0] = 1 }"), parsed(t, task("t", own, body))} {
		f := proof()
		before := text(p) + text(f)
		g := lowered(t, p, 0, f)
		want := text(g)
		spoil(t, g)
		if text(p)+text(f) != before || text(lowered(t, p, 0, f)) != want {
			t.Error("the program has changed")
		}
	}
}

// spoil gives each element of the lists of a graph another value than all others. None of these values is lost, as no two lists share memory.
func spoil(t *testing.T, g api.Graph) {
	t.Helper()
	var set, lost []func()
	next := 1000
	number := func(n *int) {
		next++
		want := next
		set = append(set, func() { *n = want })
		lost = append(lost, func() {
			if *n != want {
				t.Errorf("%d has become %d", want, *n)
			}
		})
	}
	for i := range g.Inputs {
		number(&g.Inputs[i].Lo)
	}
	for i := range g.Arrays {
		number(&g.Arrays[i].Size)
	}
	for b := range g.Blocks {
		for i := range g.Blocks[b].Next {
			number(&g.Blocks[b].Next[i])
		}
		for i := range g.Blocks[b].Ops {
			number(&g.Blocks[b].Ops[i].Kind)
		}
	}
	for i := range g.Points {
		for k := range g.Points[i] {
			number(&g.Points[i][k])
		}
	}
	for i := range g.Heads {
		number(&g.Heads[i].Max)
	}
	for _, f := range append(set, lost...) {
		f()
	}
}

package value

import (
	"fmt"
	"math"
	"reflect"
	"slices"
	"strconv"
	"strings"
	"testing"
	"timebound/api"
	"timebound/parse"
)

const (
	around = "resource r\nresource q\nshared buf 4 r\nshared que 2 q\n"
	own    = "input x 0 15\ninput y -3 3\nvar i\nvar k\narray a 4\narray b 1\n"
)

// parsed is the program of a text.
func parsed(t *testing.T, text string) api.Program {
	t.Helper()
	p, line, e := parse.Program(text)
	if e != api.OK {
		t.Fatalf("%q: error %d in line %d", text, e, line)
	}
	return p
}

func task(name, own, body string) string {
	return "task " + name + " period 200 deadline 150 priority 3 jitter 5\n" + own + "body\n" + body + "\nend\n"
}

// program is one with a task of the declarations of these tests.
func program(t *testing.T, body string) api.Program {
	t.Helper()
	return parsed(t, around+task("t", own, body))
}

// whole is the ranges of the inputs of these tests.
func whole() []api.Range { return []api.Range{{Lo: 0, Hi: 15}, {Lo: -3, Hi: 3}} }

// show writes a reduced value: a word, lo..hi, or lo..hi%M=R.
func show(v api.Value) string {
	i, r := v.Interval, v.Residue
	switch {
	case v == nothing:
		return "none"
	case v == all:
		return "any"
	case v == one(i.Lo):
		return strconv.Itoa(i.Lo)
	case r == api.Residue{M: 1}:
		return fmt.Sprintf("%d..%d", i.Lo, i.Hi)
	}
	return fmt.Sprintf("%d..%d%%%d=%d", i.Lo, i.Hi, r.M, r.R)
}

// report writes an analysis: for each point that is passed how often, and the variables; and for each while (others have nothing to write) Most and Natural.
func report(a api.Analysis) string {
	if len(a.Passes) != 39 || len(a.Vars) != 39 || len(a.Most) != 13 || len(a.Natural) != 13 {
		return "lists of other lengths"
	}
	var l []string
	for point, vars := range a.Vars {
		texts := []string{strconv.Itoa(point) + ":", strconv.Itoa(a.Passes[point]), "of"}
		for _, v := range vars {
			texts = append(texts, show(v))
		}
		if a.Passes[point] != 0 || slices.ContainsFunc(vars, func(v api.Value) bool { return v != nothing }) {
			l = append(l, strings.Join(texts, " "))
		}
	}
	for label, most := range a.Most {
		if a.Natural[label] {
			l = append(l, fmt.Sprintf("while %d: %d, natural", label, most))
		} else if most != 0 {
			l = append(l, fmt.Sprintf("while %d: %d", label, most))
		}
	}
	return strings.Join(l, "; ")
}

// finds analyses bodies for the whole ranges.
func finds(t *testing.T, list map[string]string) {
	t.Helper()
	for body, want := range list {
		want = strings.TrimSuffix("0: 1 of 0..15 -3..3 0 0; "+strings.ReplaceAll(want, "S", "0..15 -3..3 0 0"), "; ")
		if a, e := Analyse(program(t, body), 0, whole(), 0); e != api.OK || report(a) != want {
			t.Errorf("%q: error %d\n     %s\nnot: %s", body, e, report(a), want)
		}
	}
}

// P9.2: statements

// TestAssignments looks at the variables at an if behind assignments.
func TestAssignments(t *testing.T) {
	list := map[string]string{}
	for body, vars := range map[string]string{
		"":                            "0..15 -3..3 0 0",
		"i = 5":                       "0..15 -3..3 5 0",
		"i = x k = i + 1":             "0..15 -3..3 0..15 1..16",
		"x = 100 y = x + y":           "100 97..103 0 0",
		"x = y y = x":                 "-3..3 -3..3 0 0",
		"i = 2147483647 + 1 k = 1/0":  "0..15 -3..3 -2147483648 0",
		"i = x << 3 k = i + 4":        "0..15 -3..3 0..120%8=0 4..124%8=4",
		"i = x << 1 == (y << 1) + 1":  "0..15 -3..3 0 0",
		"i = x - x k = (x | 1) & 1":   "0..15 -3..3 -15..15 0..1",
		"i = y < 4 k = 3 < y":         "0..15 -3..3 1 0",
		"i = x % 7 + 1 k = -i":        "0..15 -3..3 1..7 -7..-1",
		"i = 1 i = i + i i = i * i":   "0..15 -3..3 4 0",
		"i = x >> 2 x = i":            "0..3 -3..3 0..3 0",
		"i = 0 - 2147483647 - 1":      "0..15 -3..3 -2147483648 0",
		"k = 2147483647 i = k + x":    "0..15 -3..3 any 2147483647",
		"k = 2147483632 i = k + x":    "0..15 -3..3 2147483632..2147483647 2147483632",
		"i = x << 28 k = i << 4 << y": "0..15 -3..3 -2147483648..1879048192%268435456=0 any",
	} {
		list[body+" if 1 label 1 { }"] = strings.ReplaceAll("3: 1 of V; 4: 1 of V", "V", vars)
	}
	finds(t, list)
}

// TestElements looks at what is read from arrays.
func TestElements(t *testing.T) {
	list := map[string]string{}
	for body, vars := range map[string]string{
		"i = a[0] k = b[x]":                                                     "0..15 -3..3 0 0",
		"a[x] = 4 i = a[y]":                                                     "0..15 -3..3 0..4%4=0 0",
		"a[0] = 4 i = a[0] k = a[1]":                                            "0..15 -3..3 0..4%4=0 0..4%4=0",
		"b[0] = 4 i = b[0]":                                                     "0..15 -3..3 0..4%4=0 0",
		"a[1] = 8 a[2] = 12 i = a[1]":                                           "0..15 -3..3 0..12%4=0 0",
		"a[1] = 8 a[1] = 0 i = a[1]":                                            "0..15 -3..3 0..8%8=0 0",
		"a[1] = x a[2] = y i = a[0]":                                            "0..15 -3..3 -3..15 0",
		"a[1] = a[1] + 1 i = a[2]":                                              "0..15 -3..3 0..1 0",
		"a[1] = 1 b[a[1]] = 2 k = b[7] i = a[7]":                                "0..15 -3..3 0..1 0..2%2=0",
		"a[x] = 6 i = a[a[a[1]]] + b[a[0]] a[1] = 1":                            "0..15 -3..3 0..6%2=0 0",
		"lock r { i = buf[0] } lock q { k = que[x] }":                           "0..15 -3..3 any any",
		"lock r { buf[0] = 1 buf[1] = 2 buf[2] = 3 buf[3] = 4 i = buf[0] }":     "0..15 -3..3 any 0",
		"lock r { buf[0] = 1 i = buf[0] * 4 a[0] = buf[1] & 3 } k = a[0]":       "0..15 -3..3 any 0..3",
		"lock q { que[0] = 1 i = que[0] << 3 } k = i & 15 lock r { y = i | 1 }": "0..15 -2147483647..2147483641%8=1 -2147483648..2147483640%8=0 0..8%8=0",
	} {
		list[body+" if x < 16 label 1 { }"] = strings.ReplaceAll("3: 1 of V; 4: 1 of V", "V", vars)
	}
	finds(t, list)
}

func TestIfs(t *testing.T) {
	finds(t, map[string]string{
		"if x < 5 label 2 { i = x } else { i = 9 } k = i if k label 3 { }":                     "6: 1 of 0..15 -3..3 0 0; 7: 1 of 0..4 -3..3 0 0; 8: 1 of 5..15 -3..3 0 0; 9: 1 of 0..15 -3..3 0..9 0..9; 10: 1 of 0..15 -3..3 0..9 0..9; 11: 1 of 0..15 -3..3 0..9 0..9",
		"if 1 label 2 { if 0 label 3 { } else { } } else { if 1 label 4 { } }":                 "6: 1 of 0..15 -3..3 0 0; 7: 1 of 0..15 -3..3 0 0; 9: 1 of 0..15 -3..3 0 0; 11: 1 of 0..15 -3..3 0 0",
		"if x < 16 label 12 { i = 1 } else { i = 2 } if i == 1 label 1 { }":                    "3: 1 of 0..15 -3..3 1 0; 4: 1 of 0..15 -3..3 1 0; 36: 1 of 0..15 -3..3 0 0; 37: 1 of 0..15 -3..3 0 0",
		"if x == 16 label 1 { i = 1 } else { i = 2 } if i == 1 label 12 { }":                   "3: 1 of 0..15 -3..3 0 0; 5: 1 of 0..15 -3..3 0 0; 36: 1 of 0..15 -3..3 2 0; 38: 1 of 0..15 -3..3 2 0",
		"if y label 1 { i = 4 a[0] = 8 } else { k = 4 } if 1 label 2 { i = a[0] } x = i":       "3: 1 of 0..15 -3..3 0 0; 4: 1 of 0..15 -3..3 0 0; 5: 1 of 0..15 -3..3 0 0; 6: 1 of 0..15 -3..3 0..4%4=0 0..4%4=0; 7: 1 of 0..15 -3..3 0..4%4=0 0..4%4=0",
		"if y label 1 { a[0] = 8 } else { a[1] = 4 } i = a[2] if 1 label 2 { }":                "3: 1 of 0..15 -3..3 0 0; 4: 1 of 0..15 -3..3 0 0; 5: 1 of 0..15 -3..3 0 0; 6: 1 of 0..15 -3..3 0..8%4=0 0; 7: 1 of 0..15 -3..3 0..8%4=0 0",
		"if x < 5 label 1 { } else { } if x < 6 label 2 { }":                                   "3: 1 of 0..15 -3..3 0 0; 4: 1 of 0..4 -3..3 0 0; 5: 1 of 5..15 -3..3 0 0; 6: 1 of 0..15 -3..3 0 0; 7: 1 of 0..5 -3..3 0 0; 8: 1 of 6..15 -3..3 0 0",
		"if x < 8 label 1 { if x < 4 label 2 { i = 3 } else { i = 7 } } else { i = 11 } k = i": "3: 1 of 0..15 -3..3 0 0; 4: 1 of 0..7 -3..3 0 0; 5: 1 of 8..15 -3..3 0 0; 6: 1 of 0..7 -3..3 0 0; 7: 1 of 0..3 -3..3 0 0; 8: 1 of 4..7 -3..3 0 0",
		// Each way begins with the state before the if.
		"if y label 1 { i = 1 k = i } else { k = i if 1 label 2 { } }": "3: 1 of 0..15 -3..3 0 0; 4: 1 of 0..15 -3..3 0 0; 5: 1 of 0..15 -3..3 0 0; 6: 1 of 0..15 -3..3 0 0; 7: 1 of 0..15 -3..3 0 0",
		// The condition is what it was before Then.
		"if x < 5 label 1 { x = 9 if 1 label 2 { } }": "3: 1 of 0..15 -3..3 0 0; 4: 1 of 0..4 -3..3 0 0; 5: 1 of 5..15 -3..3 0 0; 6: 1 of 9 -3..3 0 0; 7: 1 of 9 -3..3 0 0",
		// What is one word by a condition is this word from then on, on both sides of it.
		"if x == 0 label 1 { if x label 2 { } }":          "3: 1 of S; 4: 1 of 0 -3..3 0 0; 5: 1 of 1..15 -3..3 0 0; 6: 1 of 0 -3..3 0 0; 8: 1 of 0 -3..3 0 0",
		"if 0 == x label 1 { if x label 2 { } }":          "3: 1 of S; 4: 1 of 0 -3..3 0 0; 5: 1 of 1..15 -3..3 0 0; 6: 1 of 0 -3..3 0 0; 8: 1 of 0 -3..3 0 0",
		"if 1 <= x label 1 { } else { if x label 2 { } }": "3: 1 of S; 4: 1 of 1..15 -3..3 0 0; 5: 1 of 0 -3..3 0 0; 6: 1 of 0 -3..3 0 0; 8: 1 of 0 -3..3 0 0",
		// Within what is not reached, and behind it.
		"if 0 label 1 { if x label 2 { while 1 max 3 label 3 { i = 1 } } } k = 1 if k label 4 { }": "3: 1 of 0..15 -3..3 0 0; 5: 1 of 0..15 -3..3 0 0; 12: 1 of 0..15 -3..3 0 1; 13: 1 of 0..15 -3..3 0 1; while 3: 0, natural",
	})
}

func TestLocks(t *testing.T) {
	finds(t, map[string]string{
		"lock r { }": "",
		"lock r { if x < 5 label 1 { buf[x] = 1 } else { i = 1 } } k = i if x < 5 label 2 { }": "3: 1 of 0..15 -3..3 0 0; 4: 1 of 0..4 -3..3 0 0; 5: 1 of 5..15 -3..3 0 0; 6: 1 of 0..15 -3..3 0..1 0..1; 7: 1 of 0..4 -3..3 0..1 0..1; 8: 1 of 5..15 -3..3 0..1 0..1",
		"while i < 2 max 2 label 1 { lock q { i = i + 1 k = que[i] } }":                        "3: 1 of 0..15 -3..3 0 0; 4: 2 of 0..15 -3..3 0..1 any; 5: 1 of 0..15 -3..3 2 any; while 1: 2, natural",
	})
}

// TestEndsOfBlocks has statements behind a block that is in another one.
func TestEndsOfBlocks(t *testing.T) {
	finds(t, map[string]string{
		"": "", "i = 1": "", "if 1 label 1 { i = 1 if i label 2 { k = i } i = k if i label 3 { } } i = 7": "3: 1 of 0..15 -3..3 0 0; 4: 1 of 0..15 -3..3 0 0; 6: 1 of 0..15 -3..3 1 0; 7: 1 of 0..15 -3..3 1 0; 9: 1 of 0..15 -3..3 1 1; 10: 1 of 0..15 -3..3 1 1",
	})
}

// P9.2: conditions

// sides analyses ifs behind statements: both ways, with - for one that is not gone.
func sides(t *testing.T, before string, list map[string]string) {
	t.Helper()
	for condition, want := range list {
		body := before + " if " + condition + " label 1 { } else { }"
		if strings.Contains(condition, "[") {
			body = before + " lock r { if " + condition + " label 1 { } else { } }"
		}
		a, e := Analyse(program(t, body), 0, whole(), 0)
		if e != api.OK {
			t.Errorf("%q: error %d", body, e)
			continue
		}
		var got []string
		for point := 4; point <= 5; point++ {
			var texts []string
			for _, v := range a.Vars[point] {
				texts = append(texts, show(v))
			}
			if a.Passes[point] == 0 {
				texts = []string{"-"}
			}
			got = append(got, strings.Join(texts, " "))
		}
		if text := strings.Join(got, " | "); text != want {
			t.Errorf("%q: %s, not %s", body, text, want)
		}
	}
}

func TestComparisons(t *testing.T) {
	const same = "0..15 -3..3 0 0"
	sides(t, "", map[string]string{
		"x < 5": "0..4 -3..3 0 0 | 5..15 -3..3 0 0", "x <= 5": "0..5 -3..3 0 0 | 6..15 -3..3 0 0", "x == 5": "5 -3..3 0 0 | " + same, "x != 5": same + " | 5 -3..3 0 0",
		"5 < x": "6..15 -3..3 0 0 | 0..5 -3..3 0 0", "5 <= x": "5..15 -3..3 0 0 | 0..4 -3..3 0 0", "5 == x": "5 -3..3 0 0 | " + same, "5 != x": same + " | 5 -3..3 0 0",
		"x == 0": "0 -3..3 0 0 | 1..15 -3..3 0 0", "x != 15": "0..14 -3..3 0 0 | 15 -3..3 0 0", "0 != x": "1..15 -3..3 0 0 | 0 -3..3 0 0", "15 == x": "15 -3..3 0 0 | 0..14 -3..3 0 0",
		"x < 16": same + " | -", "x < 15": "0..14 -3..3 0 0 | 15 -3..3 0 0", "x < 1": "0 -3..3 0 0 | 1..15 -3..3 0 0", "x < 0": "- | " + same, "x <= 15": same + " | -", "x <= -1": "- | " + same, "y < -3": "- | " + same, "y <= -3": "0..15 -3 0 0 | 0..15 -2..3 0 0", "x == 16": "- | " + same, "x != -1": same + " | -", "-3 <= y": same + " | -", "3 < y": "- | " + same,
		// Two variables, both of which change.
		"x < y": "0..2 1..3 0 0 | " + same, "y < x": same + " | 0..3 0..3 0 0", "x <= y": "0..3 0..3 0 0 | " + same, "y <= x": same + " | 0..2 1..3 0 0", "x == y": "0..3 0..3 0 0 | " + same, "y != x": same + " | 0..3 0..3 0 0",
		"i < x": "1..15 -3..3 0 0 | 0 -3..3 0 0", "x <= i": "0 -3..3 0 0 | 1..15 -3..3 0 0", "i == y": "0..15 0 0 0 | " + same, "i != k": "- | " + same, "i == k": same + " | -",
		// One variable twice: what it becomes on the right counts.
		"x < x": "1..15 -3..3 0 0 | " + same, "x <= x": same + " | 0..14 -3..3 0 0", "x == x": same + " | " + same, "x != x": same + " | " + same, "y < y": "0..15 -2..3 0 0 | " + same, "i < i": "- | " + same,
		// Other expressions: they do not change, but what is beside them does.
		"x + 1 < 5": same + " | " + same, "x + 1 < y": "0..15 2..3 0 0 | " + same, "y + 1 < x": same + " | 0..4 -3..3 0 0", "x < y + 1": "0..3 -3..3 0 0 | " + same, "x == y + 1": "0..4 -3..3 0 0 | " + same, "x + 0 == 5": same + " | " + same, "(x < 5) == 1": same + " | " + same, "(x < 5) == y": "0..15 0..1 0 0 | " + same, "-x < -5": same + " | " + same,
		"7 < 5": "- | " + same, "5 < 7": same + " | -", "5 == 5": same + " | -",
	})
}

func TestOtherConditions(t *testing.T) {
	const same = "0..15 -3..3 0 0"
	sides(t, "", map[string]string{
		"x": same + " | " + same, "y": same + " | " + same, "i": "- | " + same, "0": "- | " + same, "1": same + " | -", "-1": same + " | -", "i + 1": same + " | -", "x + 1": same + " | -", "x - 5": same + " | " + same, "x + y": same + " | " + same, "x - x": same + " | " + same, "x & 0": "- | " + same, "x | 1": same + " | -", "y | 1": same + " | " + same, "x << 32": same + " | " + same, "x * 0": "- | " + same,
		"(x < 5) & 1": same + " | " + same, "1 - (x < 16)": "- | " + same, "(x < 5) + (y < 0)": same + " | " + same, "x / 16": "- | " + same, "y % 1": "- | " + same, "x << 2": same + " | " + same, "(x << 2) - 2": same + " | -",
		"a[x]": "- | " + same, "a[x] == 0": same + " | -", "a[0] < x": "1..15 -3..3 0 0 | 0 -3..3 0 0", "x <= a[y]": "0 -3..3 0 0 | 1..15 -3..3 0 0",
		"buf[x]": same + " | " + same, "buf[0] == 5": same + " | " + same, "buf[0] == x": same + " | " + same, "buf[0] < buf[1]": same + " | " + same, "buf[0] < buf[0]": same + " | " + same,
	})
	sides(t, "a[0] = 7", map[string]string{
		"a[1] < x": "1..15 -3..3 0 0 | 0..7 -3..3 0 0", "x < a[1]": "0..6 -3..3 0 0 | " + same, "a[1] == 3": same + " | " + same, "a[1] == 8": "- | " + same, "a[1] == y": "0..15 0..3 0 0 | " + same, "b[1] == y": "0..15 0 0 0 | " + same,
	})
	sides(t, "lock r { i = buf[0] } k = 4", map[string]string{
		"i < 0": "0..15 -3..3 -2147483648..-1 4 | 0..15 -3..3 0..2147483647 4", "i == x": "0..15 -3..3 0..15 4 | 0..15 -3..3 any 4", "i != 0": "0..15 -3..3 any 4 | 0..15 -3..3 0 4", "i <= 2147483647": "0..15 -3..3 any 4 | -", "2147483647 < i": "- | 0..15 -3..3 any 4", "i <= -2147483647 - 1": "0..15 -3..3 -2147483648 4 | 0..15 -3..3 -2147483647..2147483647 4", "k != i": "0..15 -3..3 any 4 | 0..15 -3..3 4 4",
		"i & 7 == 3": "0..15 -3..3 any 4 | 0..15 -3..3 any 4", "i << 3 == k": "- | 0..15 -3..3 any 4",
	})
}

// TestResidues has the multiples of 4 as k, and the numbers 2 behind them as i.
func TestResidues(t *testing.T) {
	const same = "0..15 -3..3 2..62%4=2 0..60%4=0"
	sides(t, "k = x << 2 i = k + 2", map[string]string{
		// The ends go to words of the residue.
		"k < 7": "0..15 -3..3 2..62%4=2 0..4%4=0 | 0..15 -3..3 2..62%4=2 8..60%4=0", "i <= 7": "0..15 -3..3 2..6%4=2 0..60%4=0 | 0..15 -3..3 10..62%4=2 0..60%4=0", "5 < k": "0..15 -3..3 2..62%4=2 8..60%4=0 | 0..15 -3..3 2..62%4=2 0..4%4=0", "k < 4": "0..15 -3..3 2..62%4=2 0 | 0..15 -3..3 2..62%4=2 4..60%4=0", "k != 0": "0..15 -3..3 2..62%4=2 4..60%4=0 | 0..15 -3..3 2..62%4=2 0", "60 == k": "0..15 -3..3 2..62%4=2 60 | 0..15 -3..3 2..62%4=2 0..56%4=0", "x < k": "0..15 -3..3 2..62%4=2 4..60%4=0 | 0..15 -3..3 2..62%4=2 0..12%4=0", "k <= x": "0..15 -3..3 2..62%4=2 0..12%4=0 | 0..15 -3..3 2..62%4=2 4..60%4=0", "k < y": "0..15 1..3 2..62%4=2 0 | " + same, "y < k": same + " | 0..15 0..3 2..62%4=2 0",
		// Those of both are met if both are equal, but not otherwise.
		"k == x": "0..12%4=0 -3..3 2..62%4=2 0..12%4=0 | " + same, "x != k": same + " | 0..12%4=0 -3..3 2..62%4=2 0..12%4=0", "k == y": "0..15 0 2..62%4=2 0 | " + same, "y != i": same + " | 0..15 2 2 0..60%4=0", "x == i": "2..14%4=2 -3..3 2..14%4=2 0..60%4=0 | " + same, "x < i": same + " | 2..15 -3..3 2..14%4=2 0..60%4=0",
		"x == k + 1": "1..13%4=1 -3..3 2..62%4=2 0..60%4=0 | " + same, "k + 1 == x": "1..13%4=1 -3..3 2..62%4=2 0..60%4=0 | " + same, "k + 1 != x": same + " | 1..13%4=1 -3..3 2..62%4=2 0..60%4=0", "k + 1 <= x": "1..15 -3..3 2..62%4=2 0..60%4=0 | " + same, "x + 0 == k": "0..15 -3..3 2..62%4=2 0..12%4=0 | " + same,
		// Nothing is left by that.
		"k == 7": "- | " + same, "k == i": "- | " + same, "k != i": same + " | -", "i != 7": same + " | -", "k == 8": "0..15 -3..3 2..62%4=2 8 | " + same,
		"k == (x & 1) + 1": "- | " + same, "(x & 1) + 1 == k": "- | " + same, "k != (x & 1) + 1": same + " | -", "(x & 1) + 1 != k": same + " | -", "i == (x & 1) + 3": "- | " + same, "i == (x & 1) + 2": "0..15 -3..3 2 0..60%4=0 | " + same,
		"k + 0 == (x & 1) + 1": same + " | " + same, "k + 1": same + " | -", "i": same + " | -", "k": same + " | " + same, "i - 2": same + " | " + same, "i - 4": same + " | -",
	})
}

// P9.2: loops

func TestWhiles(t *testing.T) {
	finds(t, map[string]string{
		"while i < 3 max 9 label 1 { i = i + 1 }":                                    "3: 1 of 0..15 -3..3 0 0; 4: 3 of 0..15 -3..3 0..2 0; 5: 1 of 0..15 -3..3 3 0; while 1: 3, natural",
		"while i < 3 max 3 label 1 { i = i + 1 }":                                    "3: 1 of 0..15 -3..3 0 0; 4: 3 of 0..15 -3..3 0..2 0; 5: 1 of 0..15 -3..3 3 0; while 1: 3, natural",
		"while i < 3 max 2 label 12 { i = i + 1 }":                                   "36: 1 of 0..15 -3..3 0 0; 37: 2 of 0..15 -3..3 0..1 0; 38: 1 of 0..15 -3..3 2 0; while 12: 2",
		"while i < 9 max 2 label 1 { i = i + 2 }":                                    "3: 1 of 0..15 -3..3 0 0; 4: 2 of 0..15 -3..3 0..2%2=0 0; 5: 1 of 0..15 -3..3 4 0; while 1: 2",
		"while i != 8 max 4 label 1 { i = i + 2 }":                                   "3: 1 of 0..15 -3..3 0 0; 4: 4 of 0..15 -3..3 0..6%2=0 0; 5: 1 of 0..15 -3..3 8 0; while 1: 4, natural",
		"while 1 max 32 label 1 { i = i + 1 }":                                       "3: 1 of 0..15 -3..3 0 0; 4: 32 of 0..15 -3..3 0..31 0; 5: 1 of 0..15 -3..3 32 0; while 1: 32",
		"while x < 20 max 3 label 1 { }":                                             "3: 1 of 0..15 -3..3 0 0; 4: 3 of 0..15 -3..3 0 0; 5: 1 of 0..15 -3..3 0 0; while 1: 3",
		"while 0 max 3 label 1 { i = 1 }":                                            "3: 1 of 0..15 -3..3 0 0; 5: 1 of 0..15 -3..3 0 0; while 1: 0, natural",
		"while 1 max 1 label 1 { i = 1 } k = i if k label 2 { }":                     "3: 1 of 0..15 -3..3 0 0; 4: 1 of 0..15 -3..3 0 0; 5: 1 of 0..15 -3..3 1 0; 6: 1 of 0..15 -3..3 1 1; 7: 1 of 0..15 -3..3 1 1; while 1: 1",
		"k = 3 while k max 5 label 1 { k = k - 1 }":                                  "3: 1 of 0..15 -3..3 0 3; 4: 3 of 0..15 -3..3 0 1..3; 5: 1 of 0..15 -3..3 0 0; while 1: 3, natural",
		"k = x while k max 3 label 1 { k = k - 1 }":                                  "3: 1 of 0..15 -3..3 0 0..15; 4: 3 of 0..15 -3..3 0 -2..15; 5: 4 of 0..15 -3..3 0 -3..15; while 1: 3",
		"while i < 2 max 5 label 1 { a[i] = 4 i = i + 1 } k = a[0] if 1 label 2 { }": "3: 1 of 0..15 -3..3 0 0; 4: 2 of 0..15 -3..3 0..1 0; 5: 1 of 0..15 -3..3 2 0; 6: 1 of 0..15 -3..3 2 0..4%4=0; 7: 1 of 0..15 -3..3 2 0..4%4=0; while 1: 2, natural",
		// Max 0: no body, but the condition decides whether the loop is natural.
		"while 1 max 0 label 1 { i = 1 }":                           "3: 1 of 0..15 -3..3 0 0; 5: 1 of 0..15 -3..3 0 0",
		"while x < 5 max 0 label 1 { i = 1 }":                       "3: 1 of 0..15 -3..3 0 0; 5: 1 of 0..15 -3..3 0 0",
		"while 0 max 0 label 1 { i = 1 }":                           "3: 1 of 0..15 -3..3 0 0; 5: 1 of 0..15 -3..3 0 0; while 1: 0, natural",
		"k = x << 2 while k == (x & 1) + 1 max 0 label 1 { k = 1 }": "3: 1 of 0..15 -3..3 0 0..60%4=0; 5: 1 of 0..15 -3..3 0 0..60%4=0; while 1: 0, natural",
	})
}

// TestExits has loops that are left in different states.
func TestExits(t *testing.T) {
	finds(t, map[string]string{
		"while i < x max 4 label 1 { i = i + 1 }":                  "3: 1 of 0..15 -3..3 0 0; 4: 4 of 1..15 -3..3 0..3 0; 5: 5 of 0..15 -3..3 0..4 0; while 1: 4",
		"while i < x max 15 label 1 { i = i + 1 }":                 "3: 1 of 0..15 -3..3 0 0; 4: 15 of 1..15 -3..3 0..14 0; 5: 16 of 0..15 -3..3 0..15 0; while 1: 15, natural",
		"while i < x max 16 label 1 { i = i + 1 }":                 "3: 1 of 0..15 -3..3 0 0; 4: 15 of 1..15 -3..3 0..14 0; 5: 16 of 0..15 -3..3 0..15 0; while 1: 15, natural",
		"while i < x max 14 label 1 { i = i + 1 }":                 "3: 1 of 0..15 -3..3 0 0; 4: 14 of 1..15 -3..3 0..13 0; 5: 15 of 0..15 -3..3 0..14 0; while 1: 14",
		"while i < x max 3 label 1 { i = i + 2 } if i label 2 { }": "3: 1 of 0..15 -3..3 0 0; 4: 3 of 1..15 -3..3 0..4%2=0 0; 5: 4 of 0..15 -3..3 0..6%2=0 0; 6: 1 of 0..15 -3..3 0..6%2=0 0; 7: 1 of 0..15 -3..3 0..6%2=0 0; 8: 1 of 0..15 -3..3 0..6%2=0 0; while 1: 3",
		// Of the states before each test, those of which the condition is not false are not left.
		"while i < x + 2 max 3 label 1 { i = i + 1 } if 1 label 2 { }": "3: 1 of 0..15 -3..3 0 0; 4: 3 of 0..15 -3..3 0..2 0; 5: 2 of 0..15 -3..3 2..3 0; 6: 1 of 0..15 -3..3 2..3 0; 7: 1 of 0..15 -3..3 2..3 0; while 1: 3",
		// The last state is left as it is, and may only be left by Max.
		"while x != 9 max 1 label 1 { i = 4 }":       "3: 1 of 0..15 -3..3 0 0; 4: 1 of 0..15 -3..3 0 0; 5: 2 of 0..15 -3..3 0..4%4=0 0; while 1: 1",
		"while x == 9 max 2 label 1 { i = 4 x = 3 }": "3: 1 of 0..15 -3..3 0 0; 4: 1 of 9 -3..3 0 0; 5: 2 of 0..15 -3..3 0..4%4=0 0; while 1: 1, natural",
		"while x < 5 max 1 label 1 { x = 5 }":        "3: 1 of 0..15 -3..3 0 0; 4: 1 of 0..4 -3..3 0 0; 5: 2 of 5..15 -3..3 0 0; while 1: 1, natural",
		"while x < 5 max 2 label 1 { x = 4 }":        "3: 1 of 0..15 -3..3 0 0; 4: 2 of 0..4 -3..3 0 0; 5: 2 of 4..15 -3..3 0 0; while 1: 2",
	})
}

func TestLoopsInLoops(t *testing.T) {
	finds(t, map[string]string{
		"while i < 2 max 2 label 2 { while k < 3 max 9 label 1 { k = k + 1 } i = i + 1 k = 2 }": "3: 2 of 0..15 -3..3 0..1 0..2%2=0; 4: 4 of 0..15 -3..3 0..1 0..2; 5: 2 of 0..15 -3..3 0..1 3; 6: 1 of 0..15 -3..3 0 0; 7: 2 of 0..15 -3..3 0..1 0..2%2=0; 8: 1 of 0..15 -3..3 2 2; while 1: 3, natural; while 2: 2, natural",
		"while i < 3 max 3 label 1 { while k < i max 9 label 2 { k = k + 1 } i = i + 1 k = 0 }": "3: 1 of 0..15 -3..3 0 0; 4: 3 of 0..15 -3..3 0..2 0; 5: 1 of 0..15 -3..3 3 0; 6: 3 of 0..15 -3..3 0..2 0; 7: 3 of 0..15 -3..3 1..2 0..1; 8: 3 of 0..15 -3..3 0..2 0..2; while 1: 3, natural; while 2: 2, natural",
		// The greatest number of bodies, first or last, and a loop that is not natural once only.
		"i = 2 while 0 < i max 3 label 1 { while k < i max 9 label 2 { k = k + 1 } i = i - 1 k = 0 }": "3: 1 of 0..15 -3..3 2 0; 4: 2 of 0..15 -3..3 1..2 0; 5: 1 of 0..15 -3..3 0 0; 6: 2 of 0..15 -3..3 1..2 0; 7: 3 of 0..15 -3..3 1..2 0..1; 8: 2 of 0..15 -3..3 1..2 1..2; while 1: 2, natural; while 2: 2, natural",
		"while i < 3 max 3 label 2 { while i == 1 max 1 label 1 { } i = i + 1 }":                      "3: 3 of 0..15 -3..3 0..2 0; 4: 1 of 0..15 -3..3 1 0; 5: 3 of 0..15 -3..3 0..2 0; 6: 1 of 0..15 -3..3 0 0; 7: 3 of 0..15 -3..3 0..2 0; 8: 1 of 0..15 -3..3 3 0; while 1: 1; while 2: 3, natural",
		"while i < 4 max 4 label 1 { if y label 2 { k = k + 1 } i = i + 1 }":                          "3: 1 of 0..15 -3..3 0 0; 4: 4 of 0..15 -3..3 0..3 0..3; 5: 1 of 0..15 -3..3 4 0..4; 6: 4 of 0..15 -3..3 0..3 0..3; 7: 4 of 0..15 -3..3 0..3 0..3; 8: 4 of 0..15 -3..3 0..3 0..3; while 1: 4, natural",
		"while i < 4 max 4 label 1 { if i < 1 label 2 { k = 1 } else { k = k + k } i = i + 1 }":       "3: 1 of 0..15 -3..3 0 0; 4: 4 of 0..15 -3..3 0..3 0..4; 5: 1 of 0..15 -3..3 4 8; 6: 4 of 0..15 -3..3 0..3 0..4; 7: 1 of 0..15 -3..3 0 0; 8: 3 of 0..15 -3..3 1..3 1..4; while 1: 4, natural",
	})
}

// P9.2: taken

func TestTaken(t *testing.T) {
	for _, c := range []struct {
		body  string
		taken int
		want  string
	}{
		{"if x < 5 label 1 { i = 1 } else { i = 2 } if i label 2 { }", 1, "3: 1 of 0..15 -3..3 0 0; 4: 1 of 0..4 -3..3 0 0; 6: 1 of 0..4 -3..3 1 0; 7: 1 of 0..4 -3..3 1 0"},
		{"if x < 5 label 1 { i = 1 } else { i = 2 } if 9 < x label 2 { }", 2, "3: 1 of 0..15 -3..3 0 0; 4: 1 of 0..4 -3..3 0 0; 5: 1 of 5..15 -3..3 0 0; 6: 1 of 0..15 -3..3 1..2 0; 7: 1 of 10..15 -3..3 1..2 0"},
		{"if x label 1 { i = 1 } if x label 2 { }", 1, "3: 1 of 0..15 -3..3 0 0; 4: 1 of 0..15 -3..3 0 0; 6: 1 of 0..15 -3..3 1 0; 7: 1 of 0..15 -3..3 1 0; 8: 1 of 0..15 -3..3 1 0"},
		// The way cannot be gone: nothing behind it is reached.
		{"if x < 0 label 1 { i = 1 } else { i = 2 } if i label 2 { }", 1, "3: 1 of 0..15 -3..3 0 0"},
		{"if y label 2 { if 0 label 1 { } k = 4 if 1 label 3 { } } else { i = 1 } if 1 label 4 { }", 1, "3: 1 of 0..15 -3..3 0 0; 6: 1 of 0..15 -3..3 0 0; 7: 1 of 0..15 -3..3 0 0; 8: 1 of 0..15 -3..3 0 0; 12: 1 of 0..15 -3..3 1 0; 13: 1 of 0..15 -3..3 1 0"},
		{"if y label 2 { i = 1 } else { if 0 label 1 { } k = 4 if 1 label 3 { } } if 1 label 4 { }", 1, "3: 1 of 0..15 -3..3 0 0; 6: 1 of 0..15 -3..3 0 0; 7: 1 of 0..15 -3..3 0 0; 8: 1 of 0..15 -3..3 0 0; 12: 1 of 0..15 -3..3 1 0; 13: 1 of 0..15 -3..3 1 0"},
		{"lock r { if 0 label 1 { } i = 1 } if i label 2 { }", 1, "3: 1 of 0..15 -3..3 0 0"},
		// The if is not reached.
		{"if 0 label 2 { if x label 1 { } } else { i = 1 } if i label 4 { }", 1, "6: 1 of 0..15 -3..3 0 0; 8: 1 of 0..15 -3..3 0 0; 12: 1 of 0..15 -3..3 1 0; 13: 1 of 0..15 -3..3 1 0"},
		// A body that does not come to its end counts, but there is no state behind it.
		{"while i < 3 max 3 label 1 { if i == 1 label 2 { } i = i + 1 } if 1 label 3 { }", 2, "3: 1 of 0..15 -3..3 0 0; 4: 1 of 0..15 -3..3 0 0; 6: 1 of 0..15 -3..3 0 0; while 1: 1, natural"},
		{"while i < x max 3 label 1 { if i == 1 label 2 { } i = i + 1 } if 1 label 3 { }", 2, "3: 1 of 0..15 -3..3 0 0; 4: 1 of 1..15 -3..3 0 0; 5: 1 of 0 -3..3 0 0; 6: 1 of 1..15 -3..3 0 0; 9: 1 of 0 -3..3 0 0; 10: 1 of 0 -3..3 0 0; while 1: 1, natural"},
		{"while i < x max 1 label 1 { if 0 label 2 { } }", 2, "3: 1 of 0..15 -3..3 0 0; 4: 1 of 1..15 -3..3 0 0; 5: 1 of 0 -3..3 0 0; 6: 1 of 1..15 -3..3 0 0; while 1: 1, natural"},
		{"while i < 3 max 3 label 1 { if i < 1 label 2 { } i = i + 1 } if 1 label 3 { }", 2, "3: 1 of 0..15 -3..3 0 0; 4: 2 of 0..15 -3..3 0..1 0; 6: 2 of 0..15 -3..3 0..1 0; 7: 1 of 0..15 -3..3 0 0; while 1: 2, natural"},
		{"while i < 3 max 3 label 1 { while k < 2 max 2 label 3 { k = k + 1 } if i < 1 label 2 { } i = i + 1 }", 2, "3: 1 of 0..15 -3..3 0 0; 4: 2 of 0..15 -3..3 0..1 0..2%2=0; 6: 2 of 0..15 -3..3 0..1 2; 7: 1 of 0..15 -3..3 0 2; 9: 2 of 0..15 -3..3 0..1 0..2%2=0; 10: 2 of 0..15 -3..3 0 0..1; 11: 2 of 0..15 -3..3 0..1 2; while 1: 2, natural; while 3: 2, natural"},
		{"while i < 3 max 3 label 1 { if x < 12 - i label 2 { k = k + 1 } else { k = 100 } i = i + 1 }", 2, "3: 1 of 0..15 -3..3 0 0; 4: 3 of 0..15 -3..3 0..2 0..2; 5: 1 of 0..9 -3..3 3 3; 6: 3 of 0..15 -3..3 0..2 0..2; 7: 3 of 0..11 -3..3 0..2 0..2; while 1: 3, natural"},
	} {
		a, e := Analyse(program(t, c.body), 0, whole(), c.taken)
		if want := "0: 1 of 0..15 -3..3 0 0; " + c.want; e != api.OK || report(a) != want {
			t.Errorf("%q with %d: error %d\n     %s\nnot: %s", c.body, c.taken, e, report(a), want)
		}
	}
}

// P9.2: tasks and inputs

// TestRangesOfOneWord has inputs that can only be 0, or only 1.
func TestRangesOfOneWord(t *testing.T) {
	p := program(t, "if x label 1 { } else { } if y label 2 { } else { }")
	for _, c := range []struct {
		x, y int
		want string
	}{
		{0, 1, "0: 1 of 0 1 0 0; 3: 1 of 0 1 0 0; 5: 1 of 0 1 0 0; 6: 1 of 0 1 0 0; 7: 1 of 0 1 0 0"},
		{1, 0, "0: 1 of 1 0 0 0; 3: 1 of 1 0 0 0; 4: 1 of 1 0 0 0; 6: 1 of 1 0 0 0; 8: 1 of 1 0 0 0"},
	} {
		ranges := []api.Range{{Lo: c.x, Hi: c.x}, {Lo: c.y, Hi: c.y}}
		if a, e := Analyse(p, 0, ranges, 0); e != api.OK || report(a) != c.want {
			t.Errorf("%v: error %d\n     %s\nnot: %s", ranges, e, report(a), c.want)
		}
	}
}

func TestRanges(t *testing.T) {
	p := program(t, "if x < 5 label 1 { } else { } if y == 2 label 2 { } else { }")
	for _, c := range []struct {
		ranges []api.Range
		want   string
	}{
		{whole(), "0: 1 of 0..15 -3..3 0 0; 3: 1 of 0..15 -3..3 0 0; 4: 1 of 0..4 -3..3 0 0; 5: 1 of 5..15 -3..3 0 0; 6: 1 of 0..15 -3..3 0 0; 7: 1 of 0..15 2 0 0; 8: 1 of 0..15 -3..3 0 0"},
		{[]api.Range{{Lo: 6, Hi: 7}, {Lo: 3, Hi: 3}}, "0: 1 of 6..7 3 0 0; 3: 1 of 6..7 3 0 0; 5: 1 of 6..7 3 0 0; 6: 1 of 6..7 3 0 0; 8: 1 of 6..7 3 0 0"},
		{[]api.Range{{Lo: 0, Hi: 0}, {Lo: 2, Hi: 2}}, "0: 1 of 0 2 0 0; 3: 1 of 0 2 0 0; 4: 1 of 0 2 0 0; 6: 1 of 0 2 0 0; 7: 1 of 0 2 0 0"},
		{[]api.Range{{Lo: 4, Hi: 15}, {Lo: -3, Hi: 2}}, "0: 1 of 4..15 -3..2 0 0; 3: 1 of 4..15 -3..2 0 0; 4: 1 of 4 -3..2 0 0; 5: 1 of 5..15 -3..2 0 0; 6: 1 of 4..15 -3..2 0 0; 7: 1 of 4..15 2 0 0; 8: 1 of 4..15 -3..1 0 0"},
	} {
		if a, e := Analyse(p, 0, c.ranges, 0); e != api.OK || report(a) != c.want {
			t.Errorf("%v: error %d\n     %s\nnot: %s", c.ranges, e, report(a), c.want)
		}
	}
}

func TestTasks(t *testing.T) {
	p := parsed(t, around+
		task("one", "input x 0 3\nvar i\narray a 2\n", "i = x + 1 a[i] = 3 if a[0] == i label 1 { }")+
		task("two", "var x\nvar z\n", "z = x + 2 lock q { que[0] = z x = que[1] } while z < 4 max 3 label 1 { z = z + 1 }")+
		task("three", "", "")+
		task("four", "", "while 1 max 2 label 1 { if 0 label 2 { } else { } } if 1 label 3 { }")+
		task("five", "input b 1 1\ninput a -4 4\nvar y\nvar x\narray k 1\narray i 8\n", "x = a - b i[x] = 7 k[x] = 8 y = i[0] if k[1] < x label 4 { }"))
	for i, c := range []struct {
		ranges []api.Range
		want   string
	}{
		{[]api.Range{{Lo: 1, Hi: 3}}, "0: 1 of 1..3 0; 3: 1 of 1..3 2..4; 4: 1 of 1..3 2..3; 5: 1 of 1..3 2..4"},
		{nil, "0: 1 of 0 0; 3: 1 of any 2; 4: 2 of any 2..3; 5: 1 of any 4; while 1: 2, natural"},
		{nil, "0: 1 of"},
		{[]api.Range{}, "0: 1 of; 3: 1 of; 4: 2 of; 5: 1 of; 6: 2 of; 8: 2 of; 9: 1 of; 10: 1 of; while 1: 2"},
		{[]api.Range{{Lo: 1, Hi: 1}, {Lo: -2, Hi: 4}}, "0: 1 of 1 -2..4 0 0; 12: 1 of 1 -2..4 0..7 -3..3; 13: 1 of 1 -2..4 0..7 1..3; 14: 1 of 1 -2..4 0..7 -3..3"},
	} {
		if a, e := Analyse(p, i, c.ranges, 0); e != api.OK || report(a) != c.want {
			t.Errorf("task %d: error %d\n     %s\nnot: %s", i, e, report(a), c.want)
		}
	}
}

// TestDepth has statements and expressions of the greatest depths that check accepts.
func TestDepth(t *testing.T) {
	finds(t, map[string]string{
		"i = 1 + (1 + (1 + (1 + (1 + (1 + (1 + x)))))) if i label 1 { }":                                                                    "3: 1 of 0..15 -3..3 7..22 0; 4: 1 of 0..15 -3..3 7..22 0",
		"lock r { if 1 label 1 { if 1 label 2 { if 1 label 3 { if 1 label 4 { if 1 label 5 { if 1 label 6 { i = 1 }}}}}}} if i label 7 { }": "3: 1 of S; 4: 1 of S; 6: 1 of S; 7: 1 of S; 9: 1 of S; 10: 1 of S; 12: 1 of S; 13: 1 of S; 15: 1 of S; 16: 1 of S; 18: 1 of S; 19: 1 of S; 21: 1 of 0..15 -3..3 1 0; 22: 1 of 0..15 -3..3 1 0",
	})
}

// P9.2: errors

// errs analyses a task of a program that has the inputs x and y.
func errs(t *testing.T, what string, p api.Program, task int, ranges []api.Range, taken int, want api.Errno) {
	t.Helper()
	a, e := Analyse(p, task, ranges, taken)
	if e != want || e != api.OK && !reflect.DeepEqual(a, api.Analysis{}) {
		t.Errorf("%s: error %d, not %d; %+v", what, e, want, a)
	}
}

func TestErrorsOfTasks(t *testing.T) {
	p := program(t, "i = x")
	errs(t, "the only task", p, 0, whole(), 0, api.OK)
	for _, task := range []int{1, -1, 2, 6, 1 << 32, math.MaxInt, math.MinInt} {
		errs(t, "another task", p, task, whole(), 0, api.ErrTask)
	}
}

func TestErrorsOfInputs(t *testing.T) {
	p := program(t, "i = x")
	ends := []int{0, 15, 7, -1, 16, -3, 3, -4, 4, lowest, highest, 1 << 32, 1<<32 + 3, math.MaxInt, math.MinInt}
	for _, lo := range ends {
		for _, hi := range ends {
			want := api.ErrInput
			if 0 <= lo && lo <= hi && hi <= 15 {
				want = api.OK
			}
			errs(t, fmt.Sprint("x from ", lo, " to ", hi), p, 0, []api.Range{{Lo: lo, Hi: hi}, {Lo: 1, Hi: 2}}, 0, want)
			want = api.ErrInput
			if -3 <= lo && lo <= hi && hi <= 3 {
				want = api.OK
			}
			errs(t, fmt.Sprint("y from ", lo, " to ", hi), p, 0, []api.Range{{Lo: 1, Hi: 2}, {Lo: lo, Hi: hi}}, 0, want)
		}
	}
	one := api.Range{Lo: 1, Hi: 1}
	for _, ranges := range [][]api.Range{nil, {}, {one}, {one, one, one}, {one, one, {}, {}}} {
		errs(t, fmt.Sprint("the ranges ", ranges), p, 0, ranges, 0, api.ErrInput)
	}
	none := parsed(t, task("t", "", ""))
	errs(t, "a range for no input", none, 0, []api.Range{one}, 0, api.ErrInput)
	// A job need not be in a mode.
	mode := parsed(t, task("t", "input x 0 9\nmode m x 2 3\n", ""))
	errs(t, "no mode", mode, 0, []api.Range{{Lo: 0, Hi: 9}}, 0, api.OK)
}

func TestErrorsOfLabels(t *testing.T) {
	p := parsed(t, around+task("t", own, "if x label 1 { if x label 2 { while x max 2 label 3 { if 0 label 4 { if x label 12 { } } } } } else { lock r { if x label 6 { } } } while 1 max 1 label 7 { }")+task("u", own, "if x label 8 { }"))
	for taken, want := range map[int]api.Errno{
		0: api.OK, 1: api.OK, 2: api.OK, 4: api.OK, 6: api.OK, 12: api.OK,
		3: api.ErrLabel, 5: api.ErrLabel, 7: api.ErrLabel, 8: api.ErrLabel, 9: api.ErrLabel, -1: api.ErrLabel, 13: api.ErrLabel, 39: api.ErrLabel, 1<<32 + 1: api.ErrLabel, math.MaxInt: api.ErrLabel, math.MinInt: api.ErrLabel,
	} {
		errs(t, fmt.Sprint("taken ", taken), p, 0, whole(), taken, want)
	}
	errs(t, "the label of the other task", p, 1, whole(), 8, api.OK)
	errs(t, "a label of the first task", p, 1, whole(), 1, api.ErrLabel)
}

// TestErrorsOfPrograms has a program with each error of check, and also all other errors.
func TestErrorsOfPrograms(t *testing.T) {
	loop := "while 1 max 32 label 1 { while 1 max 32 label 2 { i = 1 } }"
	for want, p := range map[api.Errno]api.Program{
		api.ErrForm: {Tasks: []api.Task{{Name: "T"}}}, api.ErrLimit: {}, api.ErrName: program(t, "z = 1"), api.ErrRange: program(t, "while 1 max 33 label 1 { }"),
		api.ErrLabel: program(t, "if 1 label 13 { }"), api.ErrLock: program(t, "i = buf[0]"), api.ErrWeight: program(t, loop),
	} {
		errs(t, "a program that is wrong", p, 0, whole(), 0, want)
		errs(t, "a program that is wrong", p, 9, nil, 99, want)
	}
	// What is wrong in another task matters, too.
	p := parsed(t, task("t", "", "")+task("u", "", "z = 1"))
	errs(t, "another task that is wrong", p, 0, nil, 0, api.ErrName)
}

func TestOrderOfErrors(t *testing.T) {
	wrong, right := program(t, "z = 1"), program(t, "if x label 1 { }")
	for i := range 16 {
		p, task, ranges, taken, want := right, 0, whole(), 1, api.OK
		if i&8 != 0 {
			taken, want = 2, api.ErrLabel
		}
		if i&4 != 0 {
			ranges, want = ranges[:1], api.ErrInput
		}
		if i&2 != 0 {
			task, want = 1, api.ErrTask
		}
		if i&1 != 0 {
			p, want = wrong, api.ErrName
		}
		errs(t, fmt.Sprintf("errors %b", i), p, task, ranges, taken, want)
		if i&4 != 0 {
			errs(t, fmt.Sprintf("errors %b, with a range", i), p, task, []api.Range{{Lo: 0, Hi: 1}, {Lo: 1, Hi: 0}}, taken, want)
		}
	}
}

// Rules

func TestArgumentsStay(t *testing.T) {
	body := "x = 1 a[0] = 3 lock r { buf[0] = 5 } while i < 2 max 3 label 1 { if y < 1 label 2 { k = 1 } i = i + 1 }"
	p, ranges := program(t, body), whole()
	first, e := Analyse(p, 0, ranges, 2)
	if e != api.OK || !reflect.DeepEqual(p, program(t, body)) || !slices.Equal(ranges, whole()) {
		t.Fatalf("error %d, or an argument is changed: %v", e, ranges)
	}
	kept := fmt.Sprintf("%+v", first)
	second, _ := Analyse(p, 0, ranges, 2)
	// No list of a result is part of another one, or of a later result.
	for i, list := range first.Vars {
		for j := range list[:cap(list)] {
			list[:cap(list)][j] = one(1000 * (i + 1))
		}
	}
	for _, list := range [][]int{first.Passes, first.Most} {
		for j := range list[:cap(list)] {
			list[:cap(list)][j] = -1
		}
	}
	for j := range first.Natural {
		first.Natural[j] = true
	}
	if got := fmt.Sprintf("%+v", second); got != kept {
		t.Errorf("%s, not %s", got, kept)
	}
	for i, list := range first.Vars {
		if slices.ContainsFunc(list, func(v api.Value) bool { return v != one(1000*(i+1)) }) {
			t.Errorf("the list %d shares memory: %v", i, list)
		}
	}
	if third, _ := Analyse(p, 0, ranges, 2); fmt.Sprintf("%+v", third) != kept || !reflect.DeepEqual(p, program(t, body)) {
		t.Errorf("%+v, not %s", third, kept)
	}
}

package eval

import (
	"maps"
	"math"
	"reflect"
	"strconv"
	"testing"
	"timebound/api"
	"timebound/word"
)

func n(v int) api.Expr { return api.Expr{Kind: api.ExprNum, Num: v} }

func v(s string) api.Expr { return api.Expr{Kind: api.ExprName, Name: s} }

func at(s string, args ...api.Expr) api.Expr {
	return api.Expr{Kind: api.ExprIndex, Name: s, Args: args}
}

func bin(op int, args ...api.Expr) api.Expr {
	return api.Expr{Kind: api.ExprBin, Op: op, Args: args}
}

// vars and arrays are what names stand for in the tests of Expr.
func vars() map[string]int {
	return map[string]int{"x": 7, "y": -3, "zero": 0, "l": 99, "least": -1 << 31}
}

func arrays() map[string][]int {
	return map[string][]int{"l": {10, 20, 30, 40}, "three": {5, 6, 7}, "one": {8}, "x": {77}, "empty": {}, "none": nil}
}

func is(t *testing.T, what string, e api.Expr, want int) {
	t.Helper()
	if got := Expr(e, vars(), arrays()); got != want {
		t.Errorf("%s: %d, not %d", what, got, want)
	}
}

// P6.1

func TestNumbers(t *testing.T) {
	for num, want := range map[int]int{
		0: 0, 1: 1, -1: -1, 42: 42, 1<<31 - 1: 1<<31 - 1, 1 << 31: -1 << 31, -1 << 31: -1 << 31, -1<<31 - 1: 1<<31 - 1,
		1<<32 - 1: -1, 1 << 32: 0, 1<<32 + 3: 3, -1<<32 - 3: -3, 1 << 40: 0, math.MaxInt: -1, math.MinInt: 0,
	} {
		is(t, "the number "+strconv.Itoa(num), n(num), want)
		is(t, "a number with other fields", api.Expr{Kind: api.ExprNum, Num: num, Name: "x", Op: api.Add, Args: []api.Expr{n(1), n(2)}}, want)
	}
}

func TestVariables(t *testing.T) {
	for name, want := range map[string]int{"x": 7, "y": -3, "zero": 0, "l": 99, "least": -1 << 31, "three": 0, "empty": 0, "X": 0, "": 0, "q": 0} {
		is(t, "the variable "+strconv.Quote(name), v(name), want)
		is(t, "a variable with other fields", api.Expr{Kind: api.ExprName, Num: 5, Name: name, Op: api.Add, Args: []api.Expr{n(1), n(2)}}, want)
	}
	if got := Expr(v("x"), nil, arrays()); got != 0 {
		t.Errorf("a variable of none: %d", got)
	}
}

func TestElements(t *testing.T) {
	for index, want := range map[int]int{
		0: 10, 1: 20, 3: 40, 4: 10, 5: 20, 7: 40, 8: 10, -1: 40, -2: 30, -4: 10, -5: 40, 1<<31 - 1: 40, -1 << 31: 10, -1<<31 + 1: 20,
		1 << 31: 10, 1<<32 + 1: 20, math.MaxInt: 40, math.MinInt: 10,
	} {
		is(t, "the element "+strconv.Itoa(index), at("l", n(index)), want)
		is(t, "the only element "+strconv.Itoa(index), at("one", n(index)), 8)
	}
	for index, want := range map[int]int{
		// 2^31 is 2 modulo 3.
		0: 5, 1: 6, 2: 7, 3: 5, 4: 6, -1: 7, -2: 6, -3: 5, -4: 7, 1<<31 - 1: 6, -1 << 31: 6, -1<<31 + 1: 7,
		// Its word counts: -2^31.
		1 << 31: 6,
	} {
		is(t, "of three, the element "+strconv.Itoa(index), at("three", n(index)), want)
	}
	is(t, "an index that is computed", at("l", bin(api.Sub, v("x"), n(5))), 30)
	is(t, "an element as an index", at("l", at("three", n(2))), 40)
	is(t, "an element of the array that has the name of a variable", at("x", v("x")), 77)
	for _, name := range []string{"y", "empty", "none", "", "L"} {
		is(t, "an element of "+strconv.Quote(name), at(name, n(0)), 0)
		is(t, "an element of "+strconv.Quote(name), at(name, n(-1)), 0)
		is(t, "no element of "+strconv.Quote(name), at(name), 0)
	}
	is(t, "without an index", at("l"), 0)
	is(t, "without an index", api.Expr{Kind: api.ExprIndex, Name: "l", Args: []api.Expr{}}, 0)
	is(t, "the first of two indices", at("l", n(1), n(2)), 20)
	is(t, "an index without a value", at("l", api.Expr{}), 10)
	is(t, "an element with other fields", api.Expr{Kind: api.ExprIndex, Num: 3, Op: api.Mul, Name: "l", Args: []api.Expr{n(1)}}, 20)
	if got := Expr(at("l", n(0)), vars(), nil); got != 0 {
		t.Errorf("an element of no arrays: %d", got)
	}
}

func TestOperators(t *testing.T) {
	numbers := []int{0, 1, -1, 2, 3, -7, 31, 32, 100, 1<<31 - 1, -1 << 31}
	for op := api.Add; op <= api.Ne; op++ {
		for _, a := range numbers {
			for _, b := range numbers {
				want, _ := word.Do(op, a, b)
				is(t, "operator "+strconv.Itoa(op), bin(op, n(a), n(b)), want)
			}
		}
	}
	for _, c := range []struct{ op, a, b, want int }{
		{api.Add, 1<<31 - 1, 1, -1 << 31}, {api.Sub, 3, 5, -2}, {api.Mul, 6, 7, 42}, {api.Div, -7, 2, -3}, {api.Div, 5, 0, 0}, {api.Rem, -7, 2, -1}, {api.Rem, 5, 0, 0}, {api.And, 12, 10, 8}, {api.Or, 12, 10, 14}, {api.Xor, 12, 10, 6},
		{api.Shl, 3, 33, 6}, {api.Shr, -8, 1, -4}, {api.Lt, 2, 3, 1}, {api.Lt, 3, 2, 0}, {api.Le, 3, 3, 1}, {api.Eq, 3, 2, 0}, {api.Ne, 3, 2, 1},
		{api.Add, 1<<32 + 4, -1 << 32, 4},
	} {
		is(t, "operator "+strconv.Itoa(c.op), bin(c.op, n(c.a), n(c.b)), c.want)
	}
	for _, op := range []int{0, -1, api.Ne + 1, 99, 1<<32 + api.Add, math.MaxInt, math.MinInt} {
		is(t, "the operator "+strconv.Itoa(op), bin(op, n(6), n(7)), 0)
		is(t, "within another one", bin(api.Add, bin(op, n(6), n(7)), n(5)), 5)
	}
	is(t, "no arguments", bin(api.Eq), 0)
	is(t, "one argument", bin(api.Add, n(6)), 0)
	is(t, "one argument", bin(api.Eq, n(0)), 0)
	is(t, "three arguments", bin(api.Sub, n(6), n(1), n(2)), 5)
	is(t, "arguments without a value", bin(api.Eq, api.Expr{}, at("l")), 1)
	is(t, "other fields", api.Expr{Kind: api.ExprBin, Num: 3, Name: "x", Op: api.Add, Args: []api.Expr{n(1), n(2)}}, 3)
	is(t, "all kinds", bin(api.Mul, bin(api.Sub, v("x"), v("y")), at("l", bin(api.Add, v("x"), n(2)))), 10*20)
}

func TestOtherKinds(t *testing.T) {
	for _, kind := range []int{0, -1, 5, 9, 1<<32 + api.ExprNum, math.MaxInt, math.MinInt} {
		is(t, "the kind "+strconv.Itoa(kind), api.Expr{Kind: kind, Num: 4, Name: "x", Op: api.Add, Args: []api.Expr{n(1), n(2)}}, 0)
	}
}

// TestDepth has a number at a depth, below expressions of different kinds: from 21 on it is 0.
func TestDepth(t *testing.T) {
	left := func(e api.Expr) api.Expr { return bin(api.Add, e, n(0)) }
	right := func(e api.Expr) api.Expr { return bin(api.Or, n(0), e) }
	for depth := 1; depth < 60; depth++ {
		what := "the depth " + strconv.Itoa(depth)
		for _, below := range []func(api.Expr) api.Expr{left, right} {
			for _, leaf := range []api.Expr{n(7), v("x"), at("x")} {
				e, want := leaf, 7
				if leaf.Kind == api.ExprIndex {
					want = 0
				}
				for range depth - 1 {
					e = below(e)
				}
				if depth > 20 {
					want = 0
				}
				is(t, what, e, want)
			}
		}
		// An array that leads from each index to the next one counts the levels that there are.
		next := make([]int, 100)
		for i := range next {
			next[i] = i + 1
		}
		e := n(0)
		for range depth - 1 {
			e = at("next", e)
		}
		if got := Expr(e, nil, map[string][]int{"next": next}); got != min(depth-1, 20) {
			t.Errorf("elements of %s: %d", what, got)
		}
	}
	// What is too deep is 0, but what is around it counts.
	e := bin(api.Eq, n(3), n(3))
	for range 18 {
		e = left(e)
	}
	is(t, "numbers at the depth 20", e, 1)
	is(t, "numbers at the depth 21", left(e), 1)
	is(t, "a comparison at the depth 21", left(left(e)), 0)
	e = bin(api.Ne, n(3), n(4))
	for range 19 {
		e = left(e)
	}
	is(t, "other numbers at the depth 21", e, 0)
	is(t, "what is beside it", bin(api.Add, e, n(9)), 9)
}

// Rules

func TestExpressionsInThemselves(t *testing.T) {
	for kind := range 6 {
		l := make([]api.Expr, 3)
		for i := range l {
			l[i] = api.Expr{Kind: kind, Num: 3, Name: "l", Op: api.Add, Args: l}
		}
		// The elements are those at 0, at 10 modulo 4, and from then on at 30 modulo 4.
		want := map[int]int{api.ExprNum: 3, api.ExprName: 99, api.ExprIndex: 30}
		is(t, "an expression in itself of the kind "+strconv.Itoa(kind), l[0], want[kind])
	}
	l := make([]api.Expr, 2)
	l[0], l[1] = bin(api.Add, l...), n(1)
	l[0].Args = l
	is(t, "a sum in itself", l[0], 19)
}

func TestArgumentsOfExprStay(t *testing.T) {
	e := func() api.Expr { return bin(api.Add, at("l", bin(api.Sub, v("q"), n(1))), at("q", v("least"))) }
	tree, names, lists := e(), vars(), arrays()
	for range 2 {
		if got := Expr(tree, names, lists); got != 40 {
			t.Errorf("%d", got)
		}
	}
	if !reflect.DeepEqual(tree, e()) || !maps.Equal(names, vars()) || !reflect.DeepEqual(lists, arrays()) {
		t.Errorf("changed: %v, %v, %v", tree, names, lists)
	}
}

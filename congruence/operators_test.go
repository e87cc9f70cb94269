package congruence

import (
	"math"
	"testing"
	"timebound/api"
	"timebound/word"
)

// operators are those of word, and some numbers that are none.
var operators = []int{
	api.Add, api.Sub, api.Mul, api.Div, api.Rem, api.And, api.Or, api.Xor, api.Shl, api.Shr, api.Lt, api.Le, api.Eq, api.Ne,
	0, -1, -11, 15, 16, 99, 256 + api.Add, 1<<32 + api.Eq, math.MaxInt, math.MinInt,
}

type example struct {
	op         int
	a, b, want api.Residue
}

func compare(t *testing.T, list []example) {
	t.Helper()
	for _, c := range list {
		if got := Do(c.op, c.a, c.b); got != c.want {
			t.Errorf("Do(%d, %+v, %+v) is %+v, not %+v", c.op, c.a, c.b, got, c.want)
		}
	}
}

// P8.3

func TestArithmetic(t *testing.T) {
	compare(t, []example{
		{api.Add, mod(4, 1), mod(2, 1), mod(2, 0)}, {api.Add, mod(8, 7), mod(8, 3), mod(8, 2)}, {api.Add, mod(8, 7), one(3), mod(8, 2)}, {api.Add, one(3), mod(8, 7), mod(8, 2)}, {api.Add, mod(8, 1), one(-9), mod(8, 0)}, {api.Add, mod(8, 1), one(-2), mod(8, 7)}, {api.Add, all, one(5), all}, {api.Add, mod(8, 7), all, all},
		{api.Add, mod(1<<30, 1<<30-1), mod(1<<30, 1), mod(1<<30, 0)}, {api.Add, mod(1<<30, 1<<30-1), one(highest), mod(1<<30, 1<<30-2)}, {api.Add, mod(1<<30, 0), one(lowest), mod(1<<30, 0)}, {api.Add, mod(1<<30, 7), mod(1<<29, 9), mod(1<<29, 16)},
		{api.Sub, mod(8, 1), mod(8, 3), mod(8, 6)}, {api.Sub, mod(8, 3), mod(8, 1), mod(8, 2)}, {api.Sub, mod(16, 1), mod(4, 3), mod(4, 2)}, {api.Sub, one(0), mod(8, 3), mod(8, 5)}, {api.Sub, mod(8, 0), one(3), mod(8, 5)}, {api.Sub, one(lowest), mod(8, 1), mod(8, 7)}, {api.Sub, mod(8, 1), mod(8, 1), mod(8, 0)},
		{api.Mul, mod(8, 3), mod(4, 3), mod(4, 1)}, {api.Mul, mod(8, 3), one(-1), mod(8, 5)}, {api.Mul, one(-1), mod(8, 3), mod(8, 5)}, {api.Mul, mod(4, 2), mod(4, 2), mod(4, 0)}, {api.Mul, all, one(0), all}, {api.Mul, all, one(8), all}, {api.Mul, mod(1<<30, 1<<30-1), mod(1<<30, 1<<30-1), mod(1<<30, 1)}, {api.Mul, mod(1<<30, 1<<29), one(2), mod(1<<30, 0)}, {api.Mul, mod(8, 7), one(lowest), mod(8, 0)},
	})
}

func TestBits(t *testing.T) {
	compare(t, []example{
		{api.And, mod(8, 5), mod(8, 3), mod(8, 1)}, {api.And, mod(8, 5), mod(4, 3), mod(4, 1)}, {api.And, mod(8, 5), one(-1), mod(8, 5)}, {api.And, one(6), mod(8, 5), mod(8, 4)}, {api.And, all, one(0), all}, {api.And, mod(2, 0), one(1), mod(2, 0)},
		{api.Or, mod(8, 5), mod(4, 2), mod(4, 3)}, {api.Or, mod(8, 5), mod(8, 2), mod(8, 7)}, {api.Or, mod(8, 5), one(-1), mod(8, 7)}, {api.Or, one(lowest), mod(8, 5), mod(8, 5)}, {api.Or, all, one(-1), all},
		{api.Xor, mod(8, 5), one(-1), mod(8, 2)}, {api.Xor, mod(8, 5), mod(8, 3), mod(8, 6)}, {api.Xor, mod(16, 13), mod(4, 3), mod(4, 2)}, {api.Xor, mod(8, 5), mod(8, 5), mod(8, 0)}, {api.Xor, mod(1<<30, 1<<30-1), one(1), mod(1<<30, 1<<30-2)}, {api.Xor, all, all, all},
	})
}

func TestShifts(t *testing.T) {
	compare(t, []example{
		{api.Shl, mod(4, 1), one(3), mod(32, 8)}, {api.Shl, mod(4, 1), one(0), mod(4, 1)}, {api.Shl, all, one(2), mod(4, 0)}, {api.Shl, all, one(0), all}, {api.Shl, mod(8, 7), one(1), mod(16, 14)}, {api.Shl, mod(1<<30, 5), one(0), mod(1<<30, 5)}, {api.Shl, mod(1<<30, 1<<30-1), one(3), mod(1<<30, 1<<30-8)},
		// The places are modulo 32, those below 0 too.
		{api.Shl, mod(4, 1), one(35), mod(32, 8)}, {api.Shl, mod(4, 1), one(32), mod(4, 1)}, {api.Shl, mod(4, 1), one(-29), mod(32, 8)}, {api.Shl, mod(4, 1), one(-32), mod(4, 1)}, {api.Shl, mod(4, 1), one(lowest + 2), mod(16, 4)}, {api.Shl, all, one(-1), mod(1<<30, 0)}, {api.Shl, all, one(highest), mod(1<<30, 0)},
		// 30 bits at most.
		{api.Shl, mod(4, 3), one(27), mod(1<<29, 3<<27)}, {api.Shl, mod(4, 3), one(28), mod(1<<30, 3<<28)}, {api.Shl, mod(4, 3), one(29), mod(1<<30, 1<<29)}, {api.Shl, mod(4, 3), one(30), mod(1<<30, 0)}, {api.Shl, mod(4, 3), one(31), mod(1<<30, 0)}, {api.Shl, mod(2, 1), one(31), mod(1<<30, 0)}, {api.Shl, all, one(29), mod(1<<29, 0)}, {api.Shl, all, one(30), mod(1<<30, 0)}, {api.Shl, all, one(31), mod(1<<30, 0)}, {api.Shl, mod(1<<30, 1<<30-1), one(31), mod(1<<30, 0)},
		{api.Shl, mod(4, 1), mod(4, 1), all}, {api.Shl, mod(4, 0), mod(32, 3), all}, {api.Shl, one(3), mod(4, 2), all}, {api.Shl, one(0), mod(32, 3), all}, {api.Shl, one(8), mod(1<<30, 3), all}, {api.Shl, one(3), all, all}, {api.Shl, mod(4, 1), all, all},
		{api.Shr, mod(8, 4), one(1), all}, {api.Shr, mod(8, 4), one(0), all}, {api.Shr, one(8), mod(4, 1), all}, {api.Shr, one(0), mod(4, 1), all}, {api.Shr, mod(8, 4), mod(8, 4), all},
	})
}

func TestComparisons(t *testing.T) {
	compare(t, []example{
		{api.Eq, mod(8, 1), mod(4, 2), one(0)}, {api.Eq, mod(8, 1), mod(8, 5), one(0)}, {api.Eq, mod(4, 1), mod(8, 5), all}, {api.Eq, mod(8, 1), mod(4, 1), all}, {api.Eq, mod(8, 1), one(2), one(0)}, {api.Eq, one(2), mod(8, 1), one(0)}, {api.Eq, mod(8, 1), one(9), all}, {api.Eq, mod(8, 1), one(-7), all}, {api.Eq, mod(8, 1), one(-1), one(0)}, {api.Eq, mod(8, 1), mod(8, 1), all}, {api.Eq, all, one(3), all}, {api.Eq, all, all, all}, {api.Eq, mod(1<<30, 0), mod(1<<30, 1<<29), one(0)}, {api.Eq, mod(1<<30, 0), one(1 << 30), all}, {api.Eq, mod(1<<30, 0), one(1 << 29), one(0)},
		{api.Ne, mod(8, 1), mod(4, 2), one(1)}, {api.Ne, mod(8, 1), mod(8, 5), one(1)}, {api.Ne, mod(4, 1), mod(8, 5), all}, {api.Ne, mod(8, 1), mod(4, 1), all}, {api.Ne, mod(8, 1), one(2), one(1)}, {api.Ne, one(2), mod(8, 1), one(1)}, {api.Ne, mod(8, 1), one(9), all}, {api.Ne, mod(8, 1), one(-7), all}, {api.Ne, mod(8, 1), one(-1), one(1)}, {api.Ne, mod(8, 1), mod(8, 1), all}, {api.Ne, all, one(3), all}, {api.Ne, all, all, all}, {api.Ne, mod(1<<30, 0), one(lowest), all}, {api.Ne, mod(1<<30, 0), one(lowest + 1<<29), one(1)},
		{api.Lt, mod(8, 1), mod(8, 2), all}, {api.Lt, one(lowest), mod(2, 1), all}, {api.Lt, mod(2, 1), one(lowest), all}, {api.Le, mod(8, 1), mod(8, 2), all}, {api.Le, one(lowest), mod(8, 2), all}, {api.Le, mod(8, 2), one(highest), all},
	})
}

func TestOtherOperators(t *testing.T) {
	for _, op := range operators {
		switch op {
		case api.Add, api.Sub, api.Mul, api.And, api.Or, api.Xor, api.Eq, api.Ne:
			continue
		}
		compare(t, []example{{op, mod(8, 1), mod(4, 2), all}, {op, mod(8, 4), mod(8, 4), all}, {op, one(5), mod(8, 3), all}, {op, one(0), mod(8, 1), all}, {op, all, mod(1<<30, 1), all}, {op, all, all, all}})
		if op != api.Shl {
			compare(t, []example{{op, mod(8, 1), one(2), all}, {op, mod(8, 0), one(1), all}, {op, mod(8, 4), one(0), all}, {op, mod(1<<30, 4), one(-1), all}})
		}
	}
}

func TestDoOfNone(t *testing.T) {
	for _, op := range operators {
		for _, a := range append(few(), invalid...) {
			compare(t, []example{{op, none, a, none}, {op, a, none, none}})
		}
	}
}

func TestDoOfWords(t *testing.T) {
	compare(t, []example{
		{api.Add, one(highest), one(1), one(lowest)}, {api.Sub, one(lowest), one(1), one(highest)}, {api.Mul, one(65536), one(65536), one(0)}, {api.Div, one(7), one(2), one(3)}, {api.Div, one(-7), one(2), one(-3)}, {api.Div, one(5), one(0), one(0)}, {api.Div, one(lowest), one(-1), one(lowest)}, {api.Rem, one(-7), one(2), one(-1)},
		{api.And, one(12), one(-6), one(8)}, {api.Or, one(12), one(-6), one(-2)}, {api.Xor, one(12), one(10), one(6)}, {api.Shl, one(3), one(2), one(12)}, {api.Shl, one(1), one(31), one(lowest)}, {api.Shl, one(3), one(-1), one(lowest)}, {api.Shr, one(-9), one(1), one(-5)},
		{api.Lt, one(-1), one(0), one(1)}, {api.Le, one(1), one(0), one(0)}, {api.Eq, one(5), one(5), one(1)}, {api.Eq, one(5), one(5 - 1<<30), one(0)}, {api.Ne, one(5), one(5), one(0)}, {api.Ne, one(lowest), one(0), one(1)},
	})
	for _, op := range operators {
		for _, a := range few() {
			for _, b := range few() {
				if a.M != 0 || b.M != 0 {
					continue
				}
				want := all
				if n, e := word.Do(op, a.R, b.R); e == api.OK {
					want = one(n)
				}
				compare(t, []example{{op, a, b, want}})
			}
		}
	}
}

// expected is what the chapter says of two residues, of which one is more than one word, and none is None.
func expected(op int, a, b api.Residue) api.Residue {
	modulus := func(a api.Residue) int {
		if a.M == 0 {
			return 1 << 32
		}
		return a.M
	}
	m := min(modulus(a), modulus(b))
	n, _ := word.Do(op, a.R, b.R)
	switch op {
	case api.Add, api.Sub, api.Mul, api.And, api.Or, api.Xor:
		return mod(m, rest(n, m))
	case api.Shl:
		if b.M == 0 {
			power := 1 << rest(b.R, 32)
			m := min(a.M*power, 1<<30)
			return mod(m, a.R*power%m)
		}
	case api.Eq, api.Ne:
		if rest(a.R, m) != rest(b.R, m) {
			return one(op - api.Eq)
		}
	}
	return all
}

func TestDoAgainstChapter(t *testing.T) {
	l := append(few(), many()...)
	for _, op := range operators {
		for _, a := range l {
			for _, b := range l {
				if a != none && b != none && (a.M != 0 || b.M != 0) {
					compare(t, []example{{op, a, b, expected(op, a, b)}})
				}
			}
		}
	}
}

// some is at most as many words of a residue as can be combined with others: the first ones, the last ones, and some between them.
func some(a api.Residue) []int {
	l := words(a)
	if len(l) <= 12 {
		return l
	}
	return append(append([]int{l[len(l)/3], l[len(l)/2]}, l[:8]...), l[len(l)-2:]...)
}

// TestResultsLieInDo shows that no result for words of both is lost.
func TestResultsLieInDo(t *testing.T) {
	for op := api.Add; op <= api.Ne; op++ {
		for _, a := range few() {
			for _, b := range few() {
				got := Do(op, a, b)
				for _, x := range some(a) {
					for _, y := range some(b) {
						if n, _ := word.Do(op, x, y); !lies(n, got) {
							t.Fatalf("Do(%d, %+v, %+v) is %+v, without %d from %d and %d", op, a, b, got, n, x, y)
						}
					}
				}
			}
		}
	}
}

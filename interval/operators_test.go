package interval

import (
	"testing"
	"timebound/api"
	"timebound/word"
)

type example struct {
	op         int
	a, b, want api.Interval
}

func compare(t *testing.T, list []example) {
	t.Helper()
	for _, c := range list {
		if got := Do(c.op, c.a, c.b); got != c.want {
			t.Errorf("Do(%d, %+v, %+v) is %+v, not %+v", c.op, c.a, c.b, got, c.want)
		}
	}
}

// P7.2

func TestSums(t *testing.T) {
	compare(t, []example{
		{api.Add, in(1, 2), in(10, 20), in(11, 22)}, {api.Add, in(-5, 5), in(-1, 3), in(-6, 8)}, {api.Add, in(0, highest), in(0, 0), in(0, highest)},
		{api.Add, in(0, highest), in(0, 1), all}, {api.Add, in(lowest, 0), in(-1, 0), all}, {api.Add, in(lowest, 0), in(0, highest), all}, {api.Add, in(lowest, -1), in(0, highest), in(lowest, highest-1)},
		{api.Add, in(highest, highest), in(1, 1), all}, {api.Add, in(1<<30, 1<<30), in(1<<30-1, 1<<30-1), in(highest, highest)},
		{api.Sub, in(1, 2), in(10, 20), in(-19, -8)}, {api.Sub, in(-5, 5), in(-5, 5), in(-10, 10)}, {api.Sub, in(lowest, 0), in(0, 0), in(lowest, 0)}, {api.Sub, in(lowest, 0), in(0, 1), all},
		{api.Sub, in(0, 0), in(lowest, 0), all}, {api.Sub, in(0, 0), in(lowest+1, 0), in(0, highest)}, {api.Sub, in(0, highest), in(-1, 0), all}, {api.Sub, in(lowest, lowest), in(1, 1), all},
	})
}

func TestProducts(t *testing.T) {
	compare(t, []example{
		{api.Mul, in(2, 3), in(4, 5), in(8, 15)}, {api.Mul, in(-2, 3), in(-5, 4), in(-15, 12)}, {api.Mul, in(-3, -2), in(-5, -4), in(8, 15)}, {api.Mul, in(-3, 2), in(4, 5), in(-15, 10)}, {api.Mul, in(-2, 3), in(-5, -4), in(-15, 10)},
		{api.Mul, all, in(0, 0), in(0, 0)}, {api.Mul, all, in(1, 1), all}, {api.Mul, all, in(0, 1), all}, {api.Mul, all, in(-1, -1), all}, {api.Mul, in(lowest+1, highest), in(-1, -1), in(lowest+1, highest)},
		{api.Mul, in(0, 65536), in(0, 32767), in(0, 65536*32767)}, {api.Mul, in(0, 65536), in(0, 32768), all}, {api.Mul, in(-65536, 0), in(0, 32768), in(lowest, 0)}, {api.Mul, in(65536, 65536), in(65536, 65536), all},
		{api.Mul, in(0, 46340), in(0, 46340), in(0, 46340*46340)}, {api.Mul, in(0, 46341), in(0, 46341), all}, {api.Mul, all, all, all},
		// The least result is a word, and the greatest is not.
		{api.Mul, in(-1, highest), in(0, 2), all}, {api.Mul, in(lowest, 1), in(-1, 0), all}, {api.Mul, in(lowest, 1), in(0, 2), all},
	})
}

func TestQuotients(t *testing.T) {
	compare(t, []example{
		{api.Div, in(-7, 9), in(2, 4), in(-3, 4)}, {api.Div, in(5, 9), in(2, 4), in(1, 4)}, {api.Div, in(-9, -5), in(2, 4), in(-4, -1)}, {api.Div, in(-1, 1), in(2, 2), in(0, 0)}, {api.Div, in(7, 7), in(1, 1), in(7, 7)},
		{api.Div, all, in(1, 1), all}, {api.Div, all, in(2, 2), in(-1<<30, 1<<30-1)}, {api.Div, all, in(highest, highest), in(-1, 1)}, {api.Div, in(0, highest), in(1, highest), in(0, highest)},
		{api.Div, in(8, 9), in(0, 4), all}, {api.Div, in(8, 9), in(-1, 4), all}, {api.Div, in(8, 9), in(0, 0), all}, {api.Div, in(8, 9), in(-2, -2), all}, {api.Div, in(8, 9), all, all},
	})
}

func TestRemainders(t *testing.T) {
	compare(t, []example{
		{api.Rem, in(-7, 9), in(2, 4), in(-3, 3)}, {api.Rem, in(-2, 9), in(5, 5), in(-2, 4)}, {api.Rem, in(-9, 2), in(5, 5), in(-4, 2)}, {api.Rem, in(1, 2), in(5, 5), in(0, 2)}, {api.Rem, in(-2, -1), in(5, 5), in(-2, 0)},
		{api.Rem, in(-9, -4), in(3, 3), in(-2, 0)}, {api.Rem, in(4, 9), in(3, 3), in(0, 2)}, {api.Rem, in(0, 0), in(3, 3), in(0, 0)}, {api.Rem, in(-4, 4), in(5, 5), in(-4, 4)}, {api.Rem, in(-4, 4), in(4, 4), in(-3, 3)},
		{api.Rem, in(-9, 9), in(1, 1), in(0, 0)}, {api.Rem, all, in(1, highest), in(-highest+1, highest-1)}, {api.Rem, all, in(8, 8), in(-7, 7)},
		{api.Rem, in(1, 2), in(0, 5), all}, {api.Rem, in(1, 2), in(-5, 5), all}, {api.Rem, in(1, 2), in(0, 0), all}, {api.Rem, in(1, 2), in(-5, -5), all},
	})
}

func TestBits(t *testing.T) {
	compare(t, []example{
		{api.And, in(3, 12), in(1, 5), in(0, 5)}, {api.And, in(1, 5), in(3, 12), in(0, 5)}, {api.And, in(0, 12), in(-1, 5), in(0, 12)}, {api.And, in(3, 12), in(-9, -7), in(0, 12)}, {api.And, in(-1, 12), in(0, 5), in(0, 5)},
		{api.And, in(-9, -7), in(3, 5), in(0, 5)}, {api.And, in(-1, 1), in(-1, 1), all}, {api.And, in(-1, -1), in(-1, -1), all}, {api.And, in(0, highest), all, in(0, highest)},
		{api.Or, in(2, 9), in(4, 5), in(4, 15)}, {api.Or, in(4, 5), in(2, 9), in(4, 15)}, {api.Or, in(0, 0), in(0, 0), in(0, 0)}, {api.Or, in(0, 1), in(0, 0), in(0, 1)}, {api.Or, in(0, 7), in(7, 7), in(7, 7)}, {api.Or, in(0, 7), in(3, 8), in(3, 15)},
		{api.Or, in(0, 1<<30), in(5, 5), in(5, highest)}, {api.Or, in(0, highest), in(0, highest), in(0, highest)}, {api.Or, in(-1, 9), in(4, 5), all}, {api.Or, in(4, 5), in(-1, 9), all}, {api.Or, in(-2, -1), in(-2, -1), all},
		{api.Xor, in(2, 9), in(4, 5), in(0, 15)}, {api.Xor, in(2, 7), in(4, 5), in(0, 7)}, {api.Xor, in(2, 5), in(4, 7), in(0, 7)}, {api.Xor, in(0, 0), in(0, 0), in(0, 0)}, {api.Xor, in(3, 3), in(3, 3), in(0, 3)},
		{api.Xor, in(0, 1<<30), in(5, 5), in(0, highest)}, {api.Xor, in(2, 7), in(-4, 5), all}, {api.Xor, in(-4, 5), in(2, 7), all}, {api.Xor, in(-1, -1), in(-1, -1), all},
	})
}

func TestShifts(t *testing.T) {
	compare(t, []example{
		{api.Shl, in(1, 3), in(2, 2), in(4, 12)}, {api.Shl, in(0, 3), in(0, 0), in(0, 3)}, {api.Shl, in(0, 1), in(30, 30), in(0, 1<<30)}, {api.Shl, in(0, 0), in(31, 31), in(0, 0)}, {api.Shl, in(0, highest), in(0, 0), in(0, highest)}, {api.Shl, in(5, 1<<30-1), in(1, 1), in(10, highest-1)},
		{api.Shl, in(0, 1), in(31, 31), all}, {api.Shl, in(0, 1<<30), in(1, 1), all}, {api.Shl, in(0, highest), in(31, 31), all}, {api.Shl, in(1, 3), in(1, 2), all}, {api.Shl, in(-1, 3), in(2, 2), all}, {api.Shl, in(-4, -3), in(0, 0), all},
		{api.Shl, in(0, 1), in(32, 32), all}, {api.Shl, in(0, 0), in(32, 32), all}, {api.Shl, in(0, 1), in(-1, -1), all}, {api.Shl, in(0, 1), in(lowest, lowest), all}, {api.Shl, in(0, 1), in(highest, highest), all}, {api.Shl, in(0, 0), in(0, 1), all},
		{api.Shr, in(-9, 20), in(1, 2), in(-5, 10)}, {api.Shr, in(8, 20), in(1, 2), in(2, 10)}, {api.Shr, in(-20, -8), in(1, 2), in(-10, -2)}, {api.Shr, in(-9, 20), in(0, 31), in(-9, 20)}, {api.Shr, in(8, 20), in(31, 31), in(0, 0)}, {api.Shr, in(-8, 20), in(31, 31), in(-1, 0)},
		{api.Shr, all, in(31, 31), in(-1, 0)}, {api.Shr, all, in(16, 16), in(-32768, 32767)}, {api.Shr, in(lowest, lowest), in(0, 4), in(lowest, -1<<27)},
		{api.Shr, in(8, 20), in(1, 32), in(0, 20)}, {api.Shr, in(8, 20), in(32, 32), in(0, 20)}, {api.Shr, in(8, 20), in(-1, 2), in(0, 20)}, {api.Shr, in(-8, -4), in(-1, 2), in(-8, 0)}, {api.Shr, in(-8, 4), in(33, 33), in(-8, 4)}, {api.Shr, in(-8, -4), all, in(-8, 0)}, {api.Shr, all, all, all},
	})
}

func TestComparisons(t *testing.T) {
	yes, no, either := in(1, 1), in(0, 0), in(0, 1)
	compare(t, []example{
		{api.Lt, in(1, 2), in(3, 4), yes}, {api.Lt, in(1, 3), in(3, 4), either}, {api.Lt, in(3, 4), in(1, 3), no}, {api.Lt, in(3, 4), in(1, 4), either}, {api.Lt, in(3, 3), in(3, 3), no}, {api.Lt, all, all, either},
		{api.Lt, all, in(lowest, lowest), no}, {api.Lt, in(highest, highest), all, no}, {api.Lt, all, in(highest, highest), either}, {api.Lt, in(lowest, highest-1), in(highest, highest), yes},
		{api.Le, in(1, 3), in(3, 4), yes}, {api.Le, in(1, 4), in(3, 4), either}, {api.Le, in(4, 5), in(1, 3), no}, {api.Le, in(3, 5), in(1, 3), either}, {api.Le, in(3, 3), in(3, 3), yes},
		{api.Le, all, in(highest, highest), yes}, {api.Le, in(lowest, lowest), all, yes}, {api.Le, all, in(lowest, lowest), either}, {api.Le, in(lowest+1, highest), in(lowest, lowest), no},
		{api.Eq, in(3, 3), in(3, 3), yes}, {api.Eq, in(3, 4), in(5, 6), no}, {api.Eq, in(5, 6), in(3, 4), no}, {api.Eq, in(3, 4), in(3, 4), either}, {api.Eq, in(3, 3), in(3, 4), either}, {api.Eq, in(3, 5), in(4, 4), either}, {api.Eq, in(3, 3), in(4, 4), no},
		{api.Ne, in(3, 3), in(3, 3), no}, {api.Ne, in(3, 4), in(5, 6), yes}, {api.Ne, in(5, 6), in(3, 4), yes}, {api.Ne, in(3, 4), in(3, 4), either}, {api.Ne, in(3, 4), in(4, 4), either}, {api.Ne, in(3, 5), in(4, 4), either}, {api.Ne, in(3, 3), in(4, 4), yes},
	})
}

func TestDoOfNone(t *testing.T) {
	for _, op := range operators {
		for _, a := range append(wide(), invalid...) {
			compare(t, []example{{op, none, a, none}, {op, a, none, none}})
		}
	}
}

func TestUnknownOperators(t *testing.T) {
	for _, op := range operators {
		if !word.Known(op) {
			compare(t, []example{{op, in(1, 1), in(1, 1), all}, {op, in(0, 0), in(2, 3), all}, {op, all, all, all}})
		}
	}
}

// exactly is the least interval with the results of an operator for all words of both, without wrapping; All if one of them is no word.
func exactly(result func(x, y int) int, a, b api.Interval) api.Interval {
	var l []int
	for _, x := range words(a) {
		for _, y := range words(b) {
			l = append(l, result(x, y))
		}
	}
	if h := hull(l); word.Wrap(h.Lo) == h.Lo && word.Wrap(h.Hi) == h.Hi {
		return h
	}
	return all
}

// ones is the least 2^k - 1 that is at least n.
func ones(n int) int {
	m := 0
	for m < n {
		m = 2*m + 1
	}
	return m
}

// expected is what the chapter says of two intervals with few words: but for the bits, as the least interval with the results of all words.
func expected(op int, a, b api.Interval) api.Interval {
	signless := a.Lo >= 0 && b.Lo >= 0
	result := func(x, y int) int {
		n, _ := word.Do(op, x, y)
		return n
	}
	switch {
	case op == api.Add:
		return exactly(func(x, y int) int { return x + y }, a, b)
	case op == api.Sub:
		return exactly(func(x, y int) int { return x - y }, a, b)
	case op == api.Mul:
		return exactly(func(x, y int) int { return x * y }, a, b)
	case op == api.Div && b.Lo >= 1:
		return exactly(result, a, b)
	case op == api.And && signless:
		return in(0, min(a.Hi, b.Hi))
	case op == api.And && a.Lo >= 0:
		return in(0, a.Hi)
	case op == api.And && b.Lo >= 0:
		return in(0, b.Hi)
	case op == api.Or && signless:
		return in(max(a.Lo, b.Lo), ones(max(a.Hi, b.Hi)))
	case op == api.Xor && signless:
		return in(0, ones(max(a.Hi, b.Hi)))
	case op == api.Shl && a.Lo >= 0 && b.Lo == b.Hi && 0 <= b.Lo && b.Lo <= 31:
		return exactly(func(x, y int) int { return x << y }, a, b)
	case op == api.Shr && 0 <= b.Lo && b.Hi <= 31:
		return exactly(result, a, b)
	case op == api.Shr:
		return in(min(a.Lo, 0), max(a.Hi, 0))
	case op >= api.Lt && op <= api.Ne:
		return exactly(result, a, b)
	}
	return all
}

// remainders is what the chapter says of Rem, case by case.
func remainders(a, b api.Interval) api.Interval {
	lo, hi := 0, 0
	if b.Lo < 1 {
		return all
	}
	if a.Lo < 0 {
		lo = max(a.Lo, -(b.Hi - 1))
	}
	if a.Hi > 0 {
		hi = min(a.Hi, b.Hi-1)
	}
	return in(lo, hi)
}

func TestDoAgainstWords(t *testing.T) {
	for _, op := range operators {
		for _, a := range small()[1:] {
			for _, b := range small()[1:] {
				want := expected(op, a, b)
				if op == api.Rem {
					want = remainders(a, b)
				}
				if got := Do(op, a, b); got != want {
					t.Fatalf("Do(%d, %+v, %+v) is %+v, not %+v", op, a, b, got, want)
				}
			}
		}
	}
}

// loses reports whether there is a result for words of both that does not lie in Do.
func loses(t *testing.T, op int, a, b api.Interval, of func(api.Interval) []int) {
	t.Helper()
	got := Do(op, a, b)
	for _, x := range of(a) {
		for _, y := range of(b) {
			if n, e := word.Do(op, x, y); e == api.OK && !Has(got, n) {
				t.Fatalf("Do(%d, %+v, %+v) is %+v, without %d from %d and %d", op, a, b, got, n, x, y)
			}
		}
	}
}

func TestResultsLieInDo(t *testing.T) {
	for op := api.Add; op <= api.Ne; op++ {
		for _, a := range small() {
			for _, b := range small() {
				loses(t, op, a, b, words)
			}
		}
		for _, a := range wide() {
			for _, b := range wide() {
				loses(t, op, a, b, samples)
			}
		}
	}
}

package word

import (
	"math"
	"math/big"
	"testing"
	"timebound/api"
)

const (
	least    = -1 << 31
	greatest = 1<<31 - 1
	cycle    = 1 << 32
)

// edges are numbers at and around the ends of the words and of int, and around the numbers of places of shifts.
var edges = []int{
	0, 1, -1, 2, -2, 3, 5, -7, 8, 12, 100, -1000, 65535, 65536, -65536, 123456789, -987654321,
	15, 16, 30, 31, 32, 33, 63, 64, 65, -31, -32, -33, -64,
	greatest - 1, greatest, greatest + 1, greatest + 2, least - 2, least - 1, least, least + 1,
	cycle - 1, cycle, cycle + 1, cycle + 31, -cycle, -cycle - 1, -cycle + 2, 3*cycle + 7, 1 << 40, -1 << 40,
	1 << 62, math.MaxInt - 1, math.MaxInt, math.MinInt, math.MinInt + 1,
}

// strangers are numbers that are not Known.
var strangers = []int{
	0, -1, -14, api.Add - 1, api.Ne + 1, api.Ne + 2, 255, 256 + api.Add, cycle + api.Add, -cycle + api.Mul,
	least, greatest, math.MaxInt, math.MinInt,
}

// wrapped is the word equal to n modulo 2^32, by exact arithmetic.
func wrapped(n *big.Int) int {
	m := big.NewInt(cycle)
	r := new(big.Int).Mod(n, m)
	if r.Cmp(big.NewInt(greatest)) > 0 {
		r.Sub(r, m)
	}
	return int(r.Int64())
}

// P1.1

func TestWrapKeepsWords(t *testing.T) {
	for _, n := range []int{0, 1, -1, 42, -42, 1 << 16, greatest - 1, greatest, least, least + 1} {
		if got := Wrap(n); got != n {
			t.Errorf("Wrap(%d) = %d, but it is a word", n, got)
		}
	}
}

func TestWrapOutsideOfWords(t *testing.T) {
	for _, c := range []struct{ n, want int }{
		{greatest + 1, least}, {greatest + 2, least + 1}, {least - 1, greatest}, {least - 2, greatest - 1},
		{cycle, 0}, {cycle - 1, -1}, {cycle + 5, 5}, {-cycle, 0}, {-cycle - 1, -1}, {-cycle + 1, 1},
		{cycle + greatest, greatest}, {cycle + greatest + 1, least}, {1 << 40, 0}, {-1 << 40, 0}, {1<<40 + 9, 9},
		{math.MaxInt, -1}, {math.MinInt, 0}, {math.MinInt + 3, 3},
	} {
		if got := Wrap(c.n); got != c.want {
			t.Errorf("Wrap(%d) = %d, not %d", c.n, got, c.want)
		}
	}
}

func TestWrapIsEqualModulo(t *testing.T) {
	for _, n := range edges {
		if got, want := Wrap(n), wrapped(big.NewInt(int64(n))); got != want {
			t.Errorf("Wrap(%d) = %d, not %d", n, got, want)
		}
	}
}

func TestKnown(t *testing.T) {
	for op := api.Add; op <= api.Ne; op++ {
		if !Known(op) {
			t.Errorf("operator %d is not Known", op)
		}
	}
	for _, op := range strangers {
		if Known(op) {
			t.Errorf("%d is Known", op)
		}
	}
}

// P1.2

type example struct{ op, a, b, want int }

func compare(t *testing.T, list []example) {
	t.Helper()
	for _, c := range list {
		if got, e := Do(c.op, c.a, c.b); e != api.OK || got != c.want {
			t.Errorf("Do(%d, %d, %d) = %d, %d, not %d", c.op, c.a, c.b, got, e, c.want)
		}
	}
}

func TestSums(t *testing.T) {
	compare(t, []example{
		{api.Add, 3, -5, -2}, {api.Add, greatest, 1, least}, {api.Add, least, -1, greatest}, {api.Add, least, least, 0}, {api.Add, greatest, greatest, -2},
		{api.Sub, 3, 5, -2}, {api.Sub, least, 1, greatest}, {api.Sub, greatest, -1, least}, {api.Sub, 0, least, least}, {api.Sub, least, greatest, 1},
		{api.Mul, -3, 7, -21}, {api.Mul, 65536, 65536, 0}, {api.Mul, 65536, 32768, least}, {api.Mul, greatest, greatest, 1},
		{api.Mul, least, least, 0}, {api.Mul, least, -1, least}, {api.Mul, least, greatest, least}, {api.Mul, 123456789, 987654321, -67153019},
	})
}

func TestDivisions(t *testing.T) {
	compare(t, []example{
		{api.Div, 7, 2, 3}, {api.Div, -7, 2, -3}, {api.Div, 7, -2, -3}, {api.Div, -7, -2, 3}, {api.Div, 1, 2, 0}, {api.Div, -1, 2, 0},
		{api.Div, 5, -1, -5}, {api.Div, greatest, -1, -greatest}, {api.Div, least, -1, least}, {api.Div, least, 1, least}, {api.Div, least, 2, -1 << 30},
		{api.Div, greatest, least, 0}, {api.Div, least, least, 1}, {api.Div, least, greatest, -1},
		{api.Rem, 7, 2, 1}, {api.Rem, -7, 2, -1}, {api.Rem, 7, -2, 1}, {api.Rem, -7, -2, -1}, {api.Rem, 8, 4, 0}, {api.Rem, -8, 4, 0},
		{api.Rem, 5, -1, 0}, {api.Rem, least, -1, 0}, {api.Rem, least, greatest, -1}, {api.Rem, greatest, least, greatest}, {api.Rem, least, 3, -2},
	})
}

func TestDivisionByZero(t *testing.T) {
	for _, a := range edges {
		// A multiple of 2^32 is the word 0, too.
		for _, b := range []int{0, cycle, -cycle, 1 << 40, math.MinInt} {
			compare(t, []example{{api.Div, a, b, 0}, {api.Rem, a, b, 0}})
		}
	}
}

func TestBits(t *testing.T) {
	compare(t, []example{
		{api.And, 12, 10, 8}, {api.And, -1, 12, 12}, {api.And, least, greatest, 0}, {api.And, least, -1, least},
		{api.Or, 8, 3, 11}, {api.Or, least, greatest, -1}, {api.Or, 0, -5, -5},
		{api.Xor, 12, 10, 6}, {api.Xor, -1, 1, -2}, {api.Xor, least, -1, greatest}, {api.Xor, 77, 77, 0},
	})
}

func TestShifts(t *testing.T) {
	compare(t, []example{
		{api.Shl, 3, 0, 3}, {api.Shl, -3, 0, -3}, {api.Shl, 3, 4, 48}, {api.Shl, -3, 4, -48}, {api.Shl, 1, 30, 1 << 30}, {api.Shl, 1, 31, least}, {api.Shl, 2, 31, 0},
		{api.Shl, -1, 31, least}, {api.Shl, least, 1, 0}, {api.Shl, greatest, 1, -2},
		{api.Shl, 7, 32, 7}, {api.Shl, 7, 33, 14}, {api.Shl, 7, 64, 7}, {api.Shl, 1, -1, least}, {api.Shl, 3, -31, 6}, {api.Shl, 3, -32, 3}, {api.Shl, 1, least, 1}, {api.Shl, 1, greatest, least},
		{api.Shr, -8, 0, -8}, {api.Shr, 9, 1, 4}, {api.Shr, -8, 1, -4}, {api.Shr, -9, 1, -5}, {api.Shr, -1, 31, -1}, {api.Shr, greatest, 31, 0}, {api.Shr, greatest, 30, 1}, {api.Shr, least, 31, -1},
		{api.Shr, 8, 32, 8}, {api.Shr, 8, 33, 4}, {api.Shr, -8, 64, -8}, {api.Shr, least, -1, -1}, {api.Shr, 64, -31, 32}, {api.Shr, 64, -32, 64}, {api.Shr, 5, least, 5},
	})
}

func TestComparisons(t *testing.T) {
	for _, c := range []struct{ a, b, lt, le, eq int }{
		{1, 2, 1, 1, 0}, {2, 2, 0, 1, 1}, {3, 2, 0, 0, 0}, {-1, 0, 1, 1, 0}, {0, -1, 0, 0, 0}, {-5, -4, 1, 1, 0},
		{least, greatest, 1, 1, 0}, {greatest, least, 0, 0, 0}, {least, least, 0, 1, 1}, {greatest, greatest, 0, 1, 1},
		{cycle, 1, 1, 1, 0}, {cycle + 7, 7, 0, 1, 1}, {greatest + 1, 0, 1, 1, 0}, {least - 1, 0, 0, 0, 0}, {greatest + 1, least, 0, 1, 1},
	} {
		compare(t, []example{{api.Lt, c.a, c.b, c.lt}, {api.Le, c.a, c.b, c.le}, {api.Eq, c.a, c.b, c.eq}, {api.Ne, c.a, c.b, 1 - c.eq}})
	}
}

func TestArgumentsOutsideOfWords(t *testing.T) {
	compare(t, []example{
		{api.Add, greatest + 2, 0, least + 1}, {api.Sub, cycle + 9, 4, 5}, {api.Mul, cycle + 3, -cycle + 5, 15},
		{api.Div, cycle + 7, 2, 3}, {api.Div, greatest + 1, 2, -1 << 30}, {api.Rem, 7, cycle + 4, 3}, {api.Div, 6, cycle - 1, -6}, {api.Rem, cycle - 7, 2, -1},
		{api.And, cycle + 6, 3, 2}, {api.Or, 1 << 40, 3, 3}, {api.Xor, math.MaxInt, 0, -1},
		{api.Shl, cycle + 1, 4, 16}, {api.Shr, greatest + 1, 4, -1 << 27}, {api.Shr, 1 << 33, 1, 0}, {api.Shr, 8, cycle + 1, 4},
		{api.Add, math.MaxInt, math.MaxInt, -2}, {api.Mul, math.MinInt, math.MinInt, 0}, {api.Div, math.MinInt, -1, 0},
	})
}

func flag(b bool) *big.Int {
	if b {
		return big.NewInt(1)
	}
	return big.NewInt(0)
}

// exact is the result of an operator for two words, before it is wrapped, by exact arithmetic.
func exact(op int, a, b *big.Int) *big.Int {
	r := new(big.Int)
	shift := uint(new(big.Int).Mod(b, big.NewInt(32)).Int64())
	switch op {
	case api.Add:
		r.Add(a, b)
	case api.Sub:
		r.Sub(a, b)
	case api.Mul:
		r.Mul(a, b)
	case api.Div:
		if b.Sign() != 0 {
			r.Quo(a, b)
		}
	case api.Rem:
		if b.Sign() != 0 {
			r.Sub(a, r.Mul(b, r.Quo(a, b)))
		}
	case api.And:
		r.And(a, b)
	case api.Or:
		r.Or(a, b)
	case api.Xor:
		r.Xor(a, b)
	case api.Shl:
		r.Lsh(a, shift)
	case api.Shr:
		r.Rsh(a, shift)
	case api.Lt:
		return flag(a.Cmp(b) < 0)
	case api.Le:
		return flag(a.Cmp(b) <= 0)
	case api.Eq:
		return flag(a.Cmp(b) == 0)
	case api.Ne:
		return flag(a.Cmp(b) != 0)
	}
	return r
}

// TestDoAgainstExactArithmetic also shows that only the words of the arguments matter and that the result is a word.
func TestDoAgainstExactArithmetic(t *testing.T) {
	for op := api.Add; op <= api.Ne; op++ {
		for _, a := range edges {
			for _, b := range edges {
				x, y := big.NewInt(int64(a)), big.NewInt(int64(b))
				want := wrapped(exact(op, big.NewInt(int64(wrapped(x))), big.NewInt(int64(wrapped(y)))))
				if got, e := Do(op, a, b); e != api.OK || got != want {
					t.Fatalf("Do(%d, %d, %d) = %d, %d, not %d", op, a, b, got, e, want)
				}
			}
		}
	}
}

func TestDoUnknown(t *testing.T) {
	for _, op := range strangers {
		for _, a := range edges {
			for _, b := range []int{0, 1, -1, a, math.MaxInt, math.MinInt} {
				if got, e := Do(op, a, b); e != api.ErrKind || got != 0 {
					t.Fatalf("Do(%d, %d, %d) = %d, %d", op, a, b, got, e)
				}
			}
		}
	}
}

// P1.3

func TestCost(t *testing.T) {
	for _, c := range []struct{ op, want int }{
		{api.Add, 0}, {api.Sub, 0}, {api.Mul, 1}, {api.Div, 2}, {api.Rem, 2}, {api.And, 0}, {api.Or, 0}, {api.Xor, 0},
		{api.Shl, 0}, {api.Shr, 0}, {api.Lt, 0}, {api.Le, 0}, {api.Eq, 0}, {api.Ne, 0},
	} {
		if got := Cost(c.op); got != c.want {
			t.Errorf("Cost(%d) = %d, not %d", c.op, got, c.want)
		}
	}
	for _, op := range strangers {
		if got := Cost(op); got != 0 {
			t.Errorf("Cost(%d) = %d", op, got)
		}
	}
}

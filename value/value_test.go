package value

import (
	"math"
	"slices"
	"testing"
	"timebound/api"
	"timebound/congruence"
	"timebound/interval"
	"timebound/word"
)

const (
	lowest  = -1 << 31
	highest = 1<<31 - 1
)

// in is the words from lo to hi that are r modulo m.
func in(lo, hi, m, r int) api.Value {
	return api.Value{Interval: api.Interval{Lo: lo, Hi: hi}, Residue: api.Residue{M: m, R: r}}
}

// one is one word.
func one(n int) api.Value { return in(n, n, 0, n) }

var (
	all     = in(lowest, highest, 1, 0)
	nothing = in(1, 0, -1, 0)
)

// odd is values that are not reduced, or have parts that are not valid, and what they count as.
var odd = []struct{ v, want api.Value }{
	// Both ends go to words of the residue.
	{in(0, 9, 4, 3), in(3, 7, 4, 3)}, {in(-9, 9, 4, 3), in(-9, 7, 4, 3)}, {in(-8, 8, 4, 3), in(-5, 7, 4, 3)}, {in(-7, -2, 4, 3), in(-5, -5, 0, -5)}, {in(-7, 0, 4, 3), in(-5, -1, 4, 3)}, {in(3, 7, 4, 3), in(3, 7, 4, 3)}, {in(2, 8, 4, 3), in(3, 7, 4, 3)}, {in(4, 11, 4, 3), in(7, 11, 4, 3)}, {in(0, 10, 4, 3), in(3, 7, 4, 3)},
	{in(lowest, highest, 8, 1), in(lowest+1, highest-6, 8, 1)}, {in(lowest, highest, 2, 0), in(lowest, highest-1, 2, 0)}, {in(lowest, highest, 2, 1), in(lowest+1, highest, 2, 1)}, {in(lowest+1, highest, 8, 0), in(lowest+8, highest-7, 8, 0)},
	{in(lowest, highest, 1<<30, 5), in(lowest+5, 1<<30+5, 1<<30, 5)}, {in(lowest, highest, 1<<30, 0), in(lowest, 1<<30, 1<<30, 0)}, {in(lowest, highest, 1<<30, 1<<30-1), in(-1<<30-1, highest, 1<<30, 1<<30-1)}, {in(0, highest, 1<<30, 5), in(5, 1<<30+5, 1<<30, 5)}, {in(6, highest, 1<<30, 5), one(1<<30 + 5)},
	// One word that is left is the word of both parts.
	{in(4, 9, 4, 3), one(7)}, {in(7, 7, 4, 3), one(7)}, {in(5, 10, 4, 3), one(7)}, {in(-4, 2, 4, 3), one(-1)}, {in(lowest, lowest+2, 4, 1), one(lowest + 1)}, {in(highest-2, highest, 4, 1), one(highest - 2)}, {in(highest-3, highest, 4, 3), one(highest)},
	{in(5, 5, 1, 0), one(5)}, {in(-5, -5, 2, 1), one(-5)}, {in(0, 9, 0, 4), one(4)}, {in(0, 9, 0, 0), one(0)}, {in(0, 9, 0, 9), one(9)}, {in(-9, 9, 0, -4), one(-4)}, {in(lowest, highest, 0, lowest), one(lowest)}, {in(lowest, highest, 0, highest), one(highest)}, {in(5, 5, 0, 5), one(5)}, {in(lowest, lowest, 1, 0), one(lowest)}, {in(highest, highest, 1, 0), one(highest)}, {in(0, 0, 1, 0), one(0)}, {in(1, 1, 0, 1), one(1)},
	// Nothing is left.
	{in(4, 6, 4, 3), nothing}, {in(5, 5, 2, 0), nothing}, {in(-2, 2, 4, 3), one(-1)}, {in(0, 2, 4, 3), nothing}, {in(-4, -2, 4, 3), nothing}, {in(0, 9, 0, 14), nothing}, {in(0, 9, 0, 10), nothing}, {in(0, 9, 0, -1), nothing}, {in(5, 5, 0, 6), nothing}, {in(0, 0, 0, 1), nothing}, {in(1, 1, 0, 0), nothing}, {in(highest-1, highest, 8, 0), nothing}, {in(lowest, lowest+1, 8, 2), nothing}, {in(1, 1<<30-1, 1<<30, 0), nothing}, {in(1<<30+6, highest, 1<<30, 5), nothing}, {in(lowest, lowest+4, 1<<30, 5), nothing},
	// One part is None.
	{in(1, 0, 1, 0), nothing}, {in(1, 0, 8, 3), nothing}, {in(1, 0, 2, 0), nothing}, {in(1, 0, 2, 1), nothing}, {in(1, 0, 0, 0), nothing}, {in(1, 0, 0, 1), nothing}, {in(1, 0, 0, 7), nothing}, {in(1, 0, -1, 0), nothing}, {in(0, 9, -1, 0), nothing}, {in(0, 0, -1, 0), nothing}, {in(-1, 1, -1, 0), nothing}, {in(lowest, highest, -1, 0), nothing},
	// Parts that are not valid.
	{in(9, 3, 8, 1), in(lowest+1, highest-6, 8, 1)}, {in(9, 3, 0, 5), one(5)}, {in(9, 3, 1, 0), all}, {in(9, 3, -1, 0), nothing}, {in(2, 1, 1, 0), all}, {in(2, 0, 1, 0), all}, {in(0, -1, 1, 0), all}, {in(1, -1, 1, 0), all}, {in(0, highest+1, 1, 0), all}, {in(lowest-1, 0, 1, 0), all}, {in(0, highest+1, 4, 3), in(lowest+3, highest, 4, 3)}, {in(math.MinInt, math.MaxInt, 4, 3), in(lowest+3, highest, 4, 3)}, {in(math.MaxInt, math.MaxInt, 0, 7), one(7)}, {in(1<<32+5, 1<<32+5, 1, 0), all}, {in(1<<32+5, 1<<32+5, -1, 0), nothing},
	{in(0, 9, 6, 1), in(0, 9, 1, 0)}, {in(0, 9, 4, 4), in(0, 9, 1, 0)}, {in(0, 9, 4, -1), in(0, 9, 1, 0)}, {in(0, 9, -1, 1), in(0, 9, 1, 0)}, {in(0, 9, -2, 0), in(0, 9, 1, 0)}, {in(0, 9, 0, highest+1), in(0, 9, 1, 0)}, {in(0, 9, 0, 1<<32+4), in(0, 9, 1, 0)}, {in(0, 9, 1<<31, 3), in(0, 9, 1, 0)}, {in(0, 9, 1<<32, 3), in(0, 9, 1, 0)}, {in(0, 9, math.MinInt, 0), in(0, 9, 1, 0)}, {in(0, 9, math.MaxInt, math.MaxInt), in(0, 9, 1, 0)}, {in(7, 7, 6, 1), one(7)}, {in(1, 0, 6, 1), nothing},
	{in(9, 3, 6, 1), all}, {in(0, math.MaxInt, 0, math.MinInt), all}, {api.Value{}, one(0)},
	{in(lowest, highest, 1, 0), all}, {in(1, 0, -1, 0), nothing}, {in(0, 1, 1, 0), in(0, 1, 1, 0)}, {in(lowest, highest-1, 1, 0), in(lowest, highest-1, 1, 0)},
}

// few is values of all kinds: all intervals of small words, some wide ones and some at the ends, with residues of which one says nothing, and those above.
func few() []api.Value {
	ranges := []api.Interval{{Lo: 1, Hi: 0}, {Lo: lowest, Hi: highest}, {Lo: lowest, Hi: lowest + 9}, {Lo: lowest + 3, Hi: -5}, {Lo: highest - 9, Hi: highest}, {Lo: 6, Hi: highest - 1}, {Lo: -70, Hi: 90}}
	for lo := -4; lo <= 4; lo++ {
		for hi := lo; hi <= 5; hi++ {
			ranges = append(ranges, api.Interval{Lo: lo, Hi: hi})
		}
	}
	residues := []api.Residue{{M: 1}, {M: -1}, {M: 2}, {M: 2, R: 1}, {M: 4}, {M: 4, R: 3}, {M: 8, R: 5}, {M: 64, R: 63}, {M: 1 << 28, R: 1}, {M: 1 << 30}, {M: 1 << 30, R: 1<<30 - 3}, {R: 0}, {R: 3}, {R: -2}, {R: lowest}, {R: highest - 2}}
	var l []api.Value
	for _, i := range ranges {
		for _, r := range residues {
			l = append(l, api.Value{Interval: i, Residue: r})
		}
	}
	for _, c := range odd {
		l = append(l, c.v)
	}
	return l
}

// lies is what the chapters say of a word and a value.
func lies(n int, v api.Value) bool {
	i, r := v.Interval, v.Residue
	if !interval.Valid(i) {
		i = api.Interval{Lo: lowest, Hi: highest}
	}
	if !congruence.Valid(r) {
		r = api.Residue{M: 1}
	}
	return i.Lo <= n && n <= i.Hi && (r.M == 0 && n == r.R || r.M > 0 && (n-r.R)%r.M == 0)
}

// search returns the first word of a value from one on, upwards (step 1) or downwards (step -1).
func search(v api.Value, from, step int) (int, bool) {
	i, r := v.Interval, v.Residue
	if !interval.Valid(i) {
		i = api.Interval{Lo: lowest, Hi: highest}
	}
	if step > 0 {
		from = max(from, i.Lo)
	} else {
		from = min(from, i.Hi)
	}
	switch {
	case congruence.Valid(r) && r.M == 0:
		return r.R, lies(r.R, v) && (r.R-from)*step >= 0
	case congruence.Valid(r) && r.M > 0:
		from += ((r.R-from)*step%r.M + r.M) % r.M * step
	}
	return from, lies(from, v)
}

// plain is Reduce in another way: with words that are looked for.
func plain(v api.Value) api.Value {
	lo, some := search(v, lowest, 1)
	hi, _ := search(v, highest, -1)
	switch {
	case !some:
		return nothing
	case lo == hi:
		return one(lo)
	case !congruence.Valid(v.Residue):
		return in(lo, hi, 1, 0)
	}
	return in(lo, hi, v.Residue.M, v.Residue.R)
}

// words is some words of a value, those at its ends among them, and all of a small one.
func words(v api.Value) []int {
	var l []int
	for _, c := range []struct{ from, step int }{{lowest, 1}, {highest, -1}, {0, 1}, {0, -1}} {
		for range 12 {
			n, some := search(v, c.from, c.step)
			if !some {
				break
			}
			l = append(l, n)
			c.from = n + c.step
		}
	}
	slices.Sort(l)
	return slices.Compact(l)
}

// P9.1

func TestAllAndOf(t *testing.T) {
	if All() != all {
		t.Errorf("%+v", All())
	}
	for _, c := range []struct{ n, want int }{
		{0, 0}, {7, 7}, {-3, -3}, {highest, highest}, {lowest, lowest}, {highest + 1, lowest}, {lowest - 1, highest}, {1<<32 + 5, 5}, {-1 << 32, 0}, {math.MaxInt, -1}, {math.MinInt, 0},
	} {
		if got := Of(c.n); got != one(c.want) {
			t.Errorf("Of(%d) is %+v, not %+v", c.n, got, one(c.want))
		}
	}
}

func TestReduce(t *testing.T) {
	for _, c := range odd {
		if got := Reduce(c.v); got != c.want {
			t.Errorf("Reduce(%+v) is %+v, not %+v", c.v, got, c.want)
		}
	}
}

// TestReducedAgainstDefinition looks at each part of the definition, and at words.
func TestReducedAgainstDefinition(t *testing.T) {
	for _, v := range few() {
		got := Reduce(v)
		i, r := got.Interval, got.Residue
		if want := plain(v); got != want {
			t.Errorf("Reduce(%+v) is %+v, not %+v", v, got, want)
		}
		if !interval.Valid(i) || !congruence.Valid(r) || (i == interval.None()) != (r == congruence.None()) || (i.Lo == i.Hi) != (r.M == 0) {
			t.Errorf("Reduce(%+v) is %+v", v, got)
		}
		if i != interval.None() && (!congruence.Has(r, i.Lo) || !congruence.Has(r, i.Hi) || r.M == 0 && i.Lo != r.R) {
			t.Errorf("Reduce(%+v) is %+v: an end is no word of the residue", v, got)
		}
		for n := -100; n <= 100; n++ {
			for _, n := range []int{n, lowest + 100 + n, highest - 100 + n, 1<<30 + n, -1<<30 + n} {
				if lies(n, got) != lies(n, v) {
					t.Fatalf("Reduce(%+v) is %+v: the word %d", v, got, n)
				}
			}
		}
		if again := Reduce(got); again != got {
			t.Errorf("Reduce(%+v) is %+v", got, again)
		}
	}
}

func TestHas(t *testing.T) {
	for _, c := range []struct {
		v    api.Value
		n    int
		want bool
	}{
		{in(0, 9, 4, 3), 7, true}, {in(0, 9, 4, 3), 3, true}, {in(0, 9, 4, 3), 4, false}, {in(0, 9, 4, 3), 11, false}, {in(0, 9, 4, 3), -1, false}, {in(0, 9, 4, 3), 0, false}, {in(3, 7, 4, 3), 3, true}, {in(3, 7, 4, 3), 7, true}, {in(-9, 9, 4, 3), -5, true},
		{in(0, 9, 0, 4), 4, true}, {in(0, 9, 0, 4), 5, false}, {in(0, 9, 0, 14), 14, false}, {in(0, 9, 0, 14), 4, false}, {in(1, 0, 1, 0), 0, false}, {in(1, 0, 1, 0), 1, false}, {in(0, 9, -1, 0), 4, false}, {in(0, 9, -1, 0), 0, false}, {nothing, 0, false},
		{in(9, 3, 8, 1), 17, true}, {in(9, 3, 8, 1), 16, false}, {in(0, 9, 6, 1), 8, true}, {in(0, 9, 6, 1), 10, false}, {in(9, 3, 6, 1), lowest, true}, {in(9, 3, 6, 1), highest, true},
		{all, lowest, true}, {all, highest, true}, {all, highest + 1, false}, {all, lowest - 1, false}, {all, math.MaxInt, false}, {all, math.MinInt, false}, {one(5), 5, true}, {one(5), 1<<32 + 5, false}, {in(9, 3, 6, 1), highest + 1, false}, {in(0, 1<<33, 1, 0), 1 << 32, false},
	} {
		if Has(c.v, c.n) != c.want {
			t.Errorf("Has(%+v, %d) is %t", c.v, c.n, !c.want)
		}
	}
	for _, v := range few() {
		for n := -80; n <= 100; n++ {
			for _, n := range []int{n, lowest + 80 + n, highest - 100 + n, 1<<30 + n} {
				if Has(v, n) != lies(n, v) {
					t.Fatalf("Has(%+v, %d) is %t", v, n, !lies(n, v))
				}
			}
		}
	}
}

func TestEmpty(t *testing.T) {
	empty := 0
	for _, c := range odd {
		if Empty(c.v) != (c.want == nothing) {
			t.Errorf("Empty(%+v) is %t", c.v, Empty(c.v))
		}
	}
	for _, v := range few() {
		if Empty(v) != (len(words(v)) == 0) {
			t.Errorf("Empty(%+v) is %t", v, Empty(v))
		}
		if Empty(v) {
			empty++
		}
	}
	if empty < 200 || empty > len(few())-400 {
		t.Errorf("%d of %d are empty", empty, len(few()))
	}
}

func TestJoin(t *testing.T) {
	for _, c := range []struct{ a, b, want api.Value }{
		{one(3), one(11), in(3, 11, 8, 3)}, {one(3), one(3), one(3)}, {one(-1), one(1), in(-1, 1, 2, 1)}, {one(lowest), one(highest), all}, {one(0), one(lowest), in(lowest, 0, 1<<30, 0)}, {one(4), one(7), in(4, 7, 1, 0)},
		{in(3, 7, 4, 3), one(8), in(3, 8, 1, 0)}, {in(3, 7, 4, 3), one(-1), in(-1, 7, 4, 3)}, {in(3, 7, 4, 3), one(1), in(1, 7, 2, 1)}, {in(3, 7, 4, 3), in(0, 4, 4, 0), in(0, 7, 1, 0)}, {in(0, 8, 4, 0), in(2, 6, 4, 2), in(0, 8, 2, 0)}, {in(0, 15, 1, 0), in(20, 30, 1, 0), in(0, 30, 1, 0)},
		{nothing, one(5), one(5)}, {nothing, nothing, nothing}, {nothing, all, all}, {all, one(0), all}, {all, all, all},
		// Both are reduced at first.
		{nothing, in(0, 9, 4, 3), in(3, 7, 4, 3)}, {in(4, 6, 4, 3), one(9), one(9)}, {in(4, 9, 4, 3), one(7), one(7)}, {in(4, 9, 4, 3), one(11), in(7, 11, 4, 3)}, {in(0, 9, 4, 3), in(-2, 2, 4, 1), in(1, 7, 2, 1)}, {in(0, 9, 0, 14), in(1, 0, 8, 3), nothing}, {in(0, 9, 0, 4), in(5, 5, 1, 0), in(4, 5, 1, 0)}, {in(-99, 99, 0, 4), in(-99, 99, 0, 12), in(4, 12, 8, 4)}, {in(2, 2, 1, 0), in(10, 10, 1, 0), in(2, 10, 8, 2)},
		{in(9, 3, 8, 1), one(1), in(lowest+1, highest-6, 8, 1)}, {in(0, 9, 6, 1), one(4), in(0, 9, 1, 0)}, {in(9, 3, 6, 1), nothing, all},
	} {
		if x, y := Join(c.a, c.b), Join(c.b, c.a); x != c.want || y != c.want {
			t.Errorf("Join(%+v, %+v) is %+v, or %+v, not %+v", c.a, c.b, x, y, c.want)
		}
	}
}

func TestLeq(t *testing.T) {
	for _, c := range []struct {
		a, b api.Value
		want bool
	}{
		{in(3, 7, 4, 3), in(0, 9, 2, 1), true}, {in(3, 7, 4, 3), in(0, 9, 2, 0), false}, {in(3, 7, 4, 3), in(0, 6, 2, 1), false}, {in(3, 7, 4, 3), in(4, 9, 2, 1), false}, {in(3, 7, 4, 3), in(3, 7, 4, 3), true}, {in(3, 7, 4, 3), in(3, 7, 1, 0), true}, {in(3, 7, 1, 0), in(3, 7, 4, 3), false}, {in(3, 7, 4, 3), in(3, 11, 8, 3), false},
		{one(3), in(0, 9, 4, 3), true}, {one(3), in(3, 3, 4, 3), true}, {one(3), one(3), true}, {one(3), one(4), false}, {one(3), one(-5), false}, {one(3), all, true}, {all, in(0, 9, 1, 0), false}, {all, all, true}, {all, one(0), false}, {in(0, 1, 1, 0), one(0), false},
		{nothing, nothing, true}, {nothing, one(0), true}, {nothing, all, true}, {one(0), nothing, false}, {one(1), nothing, false}, {all, nothing, false},
		// Both are reduced at first.
		{in(4, 6, 4, 3), nothing, true}, {in(4, 6, 4, 3), one(100), true}, {in(0, 9, 0, 14), one(2), true}, {in(1, 0, 8, 3), one(2), true}, {in(0, 9, -1, 0), one(20), true}, {one(4), in(4, 6, 4, 3), false}, {in(4, 9, 4, 3), one(7), true}, {one(7), in(4, 9, 4, 3), true}, {in(4, 9, 4, 3), in(6, 8, 1, 0), true}, {in(0, 9, 4, 3), in(3, 7, 1, 0), true}, {in(0, 9, 0, 4), in(3, 5, 2, 0), true}, {in(0, 9, 4, 3), in(-2, 8, 4, 3), true}, {in(5, 5, 1, 0), in(-99, 99, 0, 5), true},
		{in(9, 3, 8, 1), in(9, 3, 4, 1), true}, {in(9, 3, 8, 1), in(9, 9, 8, 1), false}, {in(0, 9, 6, 1), in(0, 9, 2, 1), false}, {in(0, 9, 4, 1), in(0, 9, 6, 1), true}, {in(9, 3, 6, 1), all, true}, {all, in(9, 3, 6, 1), true}, {in(9, 3, 6, 1), nothing, false},
	} {
		if Leq(c.a, c.b) != c.want {
			t.Errorf("Leq(%+v, %+v) is %t", c.a, c.b, !c.want)
		}
	}
}

func TestDo(t *testing.T) {
	for _, c := range []struct {
		op         int
		a, b, want api.Value
	}{
		{api.Add, in(0, 8, 4, 0), one(1), in(1, 9, 4, 1)}, {api.Add, one(highest), one(1), one(lowest)}, {api.Add, in(0, highest-3, 4, 0), one(4), in(lowest, highest-3, 4, 0)}, {api.Sub, one(3), one(5), one(-2)}, {api.Mul, one(1 << 20), one(1 << 20), one(0)}, {api.Mul, in(0, 5, 1, 0), in(2, 6, 4, 2), in(0, 30, 1, 0)}, {api.Mul, in(0, 8, 4, 0), in(0, 2, 2, 0), in(0, 16, 2, 0)},
		{api.Div, one(-7), one(2), one(-3)}, {api.Div, one(7), one(0), one(0)}, {api.Rem, in(0, 15, 1, 0), one(4), in(0, 3, 1, 0)}, {api.And, all, one(7), in(0, 7, 1, 0)}, {api.And, in(0, 12, 4, 0), one(5), in(0, 4, 4, 0)}, {api.Or, in(0, 8, 8, 0), one(3), in(3, 11, 8, 3)}, {api.Xor, one(12), one(10), one(6)},
		{api.Shl, in(0, 15, 1, 0), one(2), in(0, 60, 4, 0)}, {api.Shl, all, one(3), in(lowest, highest-7, 8, 0)}, {api.Shl, one(3), one(33), one(6)}, {api.Shr, one(-8), one(1), one(-4)}, {api.Shr, in(0, 15, 1, 0), one(1), in(0, 7, 1, 0)},
		// One part knows what the other one does not.
		{api.Eq, in(0, 8, 4, 0), in(1, 9, 4, 1), one(0)}, {api.Ne, in(0, 8, 4, 0), in(1, 9, 4, 1), one(1)}, {api.Eq, in(0, 8, 4, 0), in(0, 8, 4, 0), in(0, 1, 1, 0)}, {api.Eq, in(0, 8, 1, 0), in(9, 12, 1, 0), one(0)}, {api.Sub, in(3, 4, 1, 0), in(3, 4, 1, 0), in(-1, 1, 1, 0)}, {api.Lt, in(0, 7, 1, 0), one(8), one(1)}, {api.Le, in(9, 20, 1, 0), one(8), one(0)}, {api.Mul, all, one(0), one(0)}, {api.Mul, in(-9, highest, 1, 0), one(4), in(lowest, highest, 1, 0)},
		// Both are reduced at first, and so is the result.
		{api.Lt, in(0, 9, 4, 3), one(8), one(1)}, {api.Add, in(4, 9, 4, 3), one(1), one(8)}, {api.Mul, in(4, 9, 4, 3), in(0, 9, 0, 6), one(42)}, {api.Add, in(0, 9, 4, 3), in(0, 3, 2, 1), in(4, 10, 2, 0)}, {api.Shl, in(3, 3, 1, 0), in(2, 2, 1, 0), one(12)}, {api.Sub, in(0, 9, 0, 4), in(-9, 9, 0, 4), one(0)}, {api.And, in(0, 7, 4, 1), in(0, 3, 2, 1), in(1, 3, 2, 1)},
		{api.Add, nothing, one(1), nothing}, {api.Add, one(1), nothing, nothing}, {api.Eq, nothing, nothing, nothing}, {api.Add, in(4, 6, 4, 3), one(1), nothing}, {api.Add, one(1), in(0, 9, 0, 14), nothing}, {api.Shl, in(1, 0, 8, 3), all, nothing}, {api.Lt, all, in(5, 5, 2, 0), nothing}, {99, nothing, one(1), nothing}, {99, one(1), in(0, 9, -1, 0), nothing},
		{api.Add, in(9, 3, 8, 1), one(1), in(lowest+2, highest-5, 8, 2)}, {api.Add, in(0, 9, 6, 1), one(1), in(1, 10, 1, 0)}, {api.And, in(9, 3, 6, 1), one(3), in(0, 3, 1, 0)},
		{99, one(1), one(1), all}, {0, one(1), one(1), all}, {-1, one(1), in(0, 5, 1, 0), all}, {15, one(1), one(1), all}, {math.MaxInt, one(1), one(1), all}, {math.MinInt, all, all, all},
	} {
		if got := Do(c.op, c.a, c.b); got != c.want {
			t.Errorf("Do(%d, %+v, %+v) is %+v, not %+v", c.op, c.a, c.b, got, c.want)
		}
	}
}

// TestPairsAgainstParts compares calls of two values with both parts, and with words.
func TestPairsAgainstParts(t *testing.T) {
	list := few()
	for n, a := range list {
		for k := n % 7; k < len(list); k += 7 {
			b := list[k]
			x, y := plain(a), plain(b)
			if got, want := Join(a, b), plain(api.Value{Interval: interval.Join(x.Interval, y.Interval), Residue: congruence.Join(x.Residue, y.Residue)}); got != want {
				t.Fatalf("Join(%+v, %+v) is %+v, not %+v", a, b, got, want)
			}
			if got, want := Leq(a, b), x == nothing || interval.Leq(x.Interval, y.Interval) && congruence.Leq(x.Residue, y.Residue); got != want {
				t.Fatalf("Leq(%+v, %+v) is %t", a, b, got)
			}
			op := (n+k)%16 - 1
			if got, want := Do(op, a, b), plain(api.Value{Interval: interval.Do(op, x.Interval, y.Interval), Residue: congruence.Do(op, x.Residue, y.Residue)}); got != want {
				t.Fatalf("Do(%d, %+v, %+v) is %+v, not %+v", op, a, b, got, want)
			}
		}
	}
}

// TestPairsAgainstWords looks at words of both arguments: all results are permitted.
func TestPairsAgainstWords(t *testing.T) {
	list := few()
	for n, a := range list {
		for k := n % 23; k < len(list); k += 23 {
			b := list[k]
			join, inside := Join(a, b), Leq(a, b)
			for _, x := range words(a) {
				if !Has(join, x) || inside && !Has(b, x) {
					t.Fatalf("%+v and %+v: the word %d", a, b, x)
				}
				for _, y := range words(b) {
					op := api.Add + (n+k)%14
					if z, _ := word.Do(op, x, y); !Has(Do(op, a, b), z) {
						t.Fatalf("Do(%d, %+v, %+v) has not %d, from %d and %d", op, a, b, z, x, y)
					}
				}
			}
			if !Leq(a, join) || !Leq(b, join) {
				t.Fatalf("Join(%+v, %+v) is %+v: it does not lie in it", a, b, join)
			}
		}
	}
}

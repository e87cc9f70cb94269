package interval

import (
	"math"
	"testing"
	"timebound/api"
	"timebound/word"
)

const (
	lowest  = -1 << 31
	highest = 1<<31 - 1
)

var (
	all  = in(lowest, highest)
	none = in(1, 0)
)

func in(lo, hi int) api.Interval { return api.Interval{Lo: lo, Hi: hi} }

// invalid are intervals that count as All.
var invalid = []api.Interval{
	in(0, -1), in(2, 0), in(2, 1), in(1, -1), in(5, 1), in(-1, -2), in(highest, lowest), in(lowest+1, lowest),
	in(lowest-1, 0), in(0, highest+1), in(lowest-1, highest+1), in(lowest-1, lowest-1), in(highest+1, highest+1),
	in(1<<32+1, 1<<32), in(1<<32+2, 1<<32+5), in(-1<<40, 1<<40), in(1<<32, 5), in(-5, 1<<32),
	in(math.MinInt, math.MaxInt), in(math.MaxInt, math.MinInt), in(math.MinInt, math.MinInt), in(math.MaxInt, math.MaxInt), in(math.MinInt, 0), in(0, math.MaxInt),
}

// operators are those of word, and some numbers that are none.
var operators = []int{
	api.Add, api.Sub, api.Mul, api.Div, api.Rem, api.And, api.Or, api.Xor, api.Shl, api.Shr, api.Lt, api.Le, api.Eq, api.Ne,
	0, -1, -11, 15, 16, 99, 256 + api.Add, 1<<32 + api.Eq, math.MaxInt, math.MinInt,
}

// window is all intervals of the words from lo to hi.
func window(lo, hi int) []api.Interval {
	var l []api.Interval
	for a := lo; a <= hi; a++ {
		for b := a; b <= hi; b++ {
			l = append(l, in(a, b))
		}
	}
	return l
}

// small is intervals of which each word can be looked at: around 0, around the greatest number of places, at both ends, and none.
func small() []api.Interval {
	l := []api.Interval{none}
	l = append(l, window(-5, 5)...)
	l = append(l, window(30, 33)...)
	l = append(l, window(lowest, lowest+3)...)
	return append(l, window(highest-3, highest)...)
}

// wide is intervals between words at which something changes.
func wide() []api.Interval {
	ends := []int{
		lowest, lowest + 1, -65536, -46341, -2, -1, 0, 1, 7, 8, 31, 32, 46340, 46341, 65536, 1 << 30, highest - 1, highest,
	}
	l := []api.Interval{none}
	for i, lo := range ends {
		for _, hi := range ends[i:] {
			l = append(l, in(lo, hi))
		}
	}
	return l
}

// words is the words of a valid interval.
func words(a api.Interval) []int {
	var l []int
	for n := a.Lo; n <= a.Hi; n++ {
		l = append(l, n)
	}
	return l
}

// samples is some words of an interval, its ends among them.
func samples(a api.Interval) []int {
	var l []int
	for _, n := range []int{a.Lo, a.Lo + 1, a.Lo/2 + a.Hi/2, -1, 0, 1, 31, 65535, a.Hi - 1, a.Hi} {
		if a.Lo <= n && n <= a.Hi {
			l = append(l, n)
		}
	}
	return l
}

// hull is the least interval with all numbers of a list, none without any.
func hull(l []int) api.Interval {
	if len(l) == 0 {
		return none
	}
	h := in(l[0], l[0])
	for _, n := range l {
		h = in(min(h.Lo, n), max(h.Hi, n))
	}
	return h
}

// P7.1

func TestAllAndNone(t *testing.T) {
	if All() != all || None() != none {
		t.Errorf("%+v, %+v", All(), None())
	}
}

func TestValid(t *testing.T) {
	for _, a := range []api.Interval{all, none, in(0, 0), in(1, 1), in(0, 1), in(-7, 9), in(lowest, lowest), in(highest, highest), in(lowest, 0), in(0, highest)} {
		if !Valid(a) {
			t.Errorf("%+v is not valid", a)
		}
	}
	for _, a := range invalid {
		if Valid(a) {
			t.Errorf("%+v is valid", a)
		}
	}
}

func TestHas(t *testing.T) {
	for _, c := range []struct {
		a    api.Interval
		n    int
		want bool
	}{
		{in(-2, 3), -2, true}, {in(-2, 3), 0, true}, {in(-2, 3), 3, true}, {in(-2, 3), -3, false}, {in(-2, 3), 4, false},
		{in(5, 5), 5, true}, {in(5, 5), 4, false}, {in(5, 5), 6, false}, {in(5, 5), 5 + 1<<32, false},
		{all, lowest, true}, {all, highest, true}, {all, lowest - 1, false}, {all, highest + 1, false}, {all, math.MinInt, false}, {all, math.MaxInt, false},
		{none, 0, false}, {none, 1, false}, {none, 2, false}, {none, -1, false}, {none, math.MinInt, false}, {none, math.MaxInt, false},
	} {
		if Has(c.a, c.n) != c.want {
			t.Errorf("Has(%+v, %d) is %t", c.a, c.n, !c.want)
		}
	}
	// What is not valid has all words, and nothing else, whatever its ends are.
	for _, a := range invalid {
		for _, n := range []int{lowest, -3, 0, 1, 100, highest, lowest - 1, highest + 1, a.Lo, a.Hi} {
			if want := word.Wrap(n) == n; Has(a, n) != want {
				t.Errorf("Has(%+v, %d) is %t", a, n, !want)
			}
		}
	}
}

func TestJoinAndMeet(t *testing.T) {
	for _, c := range []struct{ a, b, join, meet api.Interval }{
		{in(0, 3), in(2, 9), in(0, 9), in(2, 3)}, {in(0, 9), in(2, 3), in(0, 9), in(2, 3)}, {in(0, 3), in(3, 9), in(0, 9), in(3, 3)}, {in(0, 3), in(4, 9), in(0, 9), none},
		{in(-9, -5), in(5, 9), in(-9, 9), none}, {in(7, 7), in(7, 7), in(7, 7), in(7, 7)}, {in(lowest, lowest), in(highest, highest), all, none},
		{all, in(-4, 4), all, in(-4, 4)}, {all, all, all, all}, {none, none, none, none}, {none, all, all, none},
		// The ends of None are no words of it.
		{none, in(0, 0), in(0, 0), none}, {none, in(1, 1), in(1, 1), none}, {none, in(0, 1), in(0, 1), none}, {none, in(-8, -5), in(-8, -5), none}, {none, in(5, 8), in(5, 8), none},
		{in(9, 3), in(5, 6), all, in(5, 6)}, {in(9, 3), none, all, none}, {in(0, highest+1), in(lowest-1, 0), all, all}, {in(0, highest+1), in(-5, -4), all, in(-5, -4)},
	} {
		if j, k := Join(c.a, c.b), Join(c.b, c.a); j != c.join || k != c.join {
			t.Errorf("Join(%+v, %+v) is %+v, or %+v", c.a, c.b, j, k)
		}
		if m, n := Meet(c.a, c.b), Meet(c.b, c.a); m != c.meet || n != c.meet {
			t.Errorf("Meet(%+v, %+v) is %+v, or %+v", c.a, c.b, m, n)
		}
	}
}

func TestLeq(t *testing.T) {
	for _, c := range []struct {
		a, b api.Interval
		want bool
	}{
		{in(1, 2), in(1, 2), true}, {in(1, 2), in(0, 2), true}, {in(1, 2), in(1, 3), true}, {in(1, 2), in(0, 3), true}, {in(1, 2), in(2, 3), false}, {in(1, 2), in(1, 1), false}, {in(1, 2), in(4, 9), false},
		{none, none, true}, {none, in(0, 0), true}, {none, in(1, 1), true}, {none, in(-9, -8), true}, {none, all, true}, {in(0, 0), none, false}, {in(1, 1), none, false}, {all, none, false},
		{in(lowest, 0), all, true}, {all, all, true}, {all, in(lowest, highest-1), false}, {all, in(lowest+1, highest), false},
		{in(5, 3), all, true}, {in(5, 3), in(1, 3), false}, {in(5, 3), in(1, 9), false}, {all, in(5, 3), true}, {in(4, 4), in(5, 3), true}, {in(5, 3), in(0, 1<<40), true}, {in(5, 3), none, false}, {none, in(5, 3), true},
	} {
		if Leq(c.a, c.b) != c.want {
			t.Errorf("Leq(%+v, %+v) is %t", c.a, c.b, !c.want)
		}
	}
}

// TestOrderAgainstWords compares the order with sets of words.
func TestOrderAgainstWords(t *testing.T) {
	for _, a := range small() {
		for _, b := range small() {
			var both []int
			for _, n := range words(a) {
				if Has(b, n) != (b.Lo <= n && n <= b.Hi) {
					t.Fatalf("Has(%+v, %d)", b, n)
				}
				if b.Lo <= n && n <= b.Hi {
					both = append(both, n)
				}
			}
			if got, want := Meet(a, b), hull(both); got != want {
				t.Fatalf("Meet(%+v, %+v) is %+v, not %+v", a, b, got, want)
			}
			if got, want := Join(a, b), hull(append(words(a), words(b)...)); got != want {
				t.Fatalf("Join(%+v, %+v) is %+v, not %+v", a, b, got, want)
			}
			if want := len(both) == len(words(a)); Leq(a, b) != want {
				t.Fatalf("Leq(%+v, %+v) is %t", a, b, !want)
			}
		}
	}
}

// TestBoundsOfOrder shows that Join is the least upper bound and Meet the greatest lower one.
func TestBoundsOfOrder(t *testing.T) {
	l := append([]api.Interval{none, all, in(lowest, 0), in(0, highest)}, window(-2, 3)...)
	for _, a := range l {
		for _, b := range l {
			j, m := Join(a, b), Meet(a, b)
			if !Leq(a, j) || !Leq(b, j) || !Leq(m, a) || !Leq(m, b) {
				t.Fatalf("%+v, %+v: no bounds: %+v, %+v", a, b, j, m)
			}
			for _, c := range l {
				if Leq(a, c) && Leq(b, c) && !Leq(j, c) || Leq(c, a) && Leq(c, b) && !Leq(c, m) {
					t.Fatalf("%+v, %+v: %+v is nearer than %+v, %+v", a, b, c, j, m)
				}
			}
		}
	}
}

// All promises

// TestInvalidAreAll shows that each call takes what is not valid as All, in both places.
func TestInvalidAreAll(t *testing.T) {
	others := append([]api.Interval{none, all, in(0, 0), in(1, 1), in(-3, 9), in(4, 31), in(lowest, lowest), in(highest, highest)}, invalid...)
	for _, a := range invalid {
		for _, b := range others {
			if Join(a, b) != Join(all, b) || Join(b, a) != Join(b, all) || Meet(a, b) != Meet(all, b) || Meet(b, a) != Meet(b, all) || Leq(a, b) != Leq(all, b) || Leq(b, a) != Leq(b, all) {
				t.Errorf("the order of %+v and %+v", a, b)
			}
			for _, op := range operators {
				if Do(op, a, b) != Do(op, all, b) || Do(op, b, a) != Do(op, b, all) {
					t.Errorf("operator %d, %+v and %+v", op, a, b)
				}
				for _, truth := range []bool{true, false} {
					u, v := Refine(op, truth, a, b)
					x, y := Refine(op, truth, all, b)
					if u != x || v != y {
						t.Errorf("operator %d, %t: %+v and %+v lead to %+v, %+v", op, truth, a, b, u, v)
					}
					u, v = Refine(op, truth, b, a)
					x, y = Refine(op, truth, b, all)
					if u != x || v != y {
						t.Errorf("operator %d, %t: %+v and %+v lead to %+v, %+v", op, truth, b, a, u, v)
					}
				}
			}
		}
	}
}

// TestResultsAreValid shows that there is no result that would count as another one.
func TestResultsAreValid(t *testing.T) {
	l := append(wide(), invalid...)
	for _, a := range l {
		for _, b := range l {
			results := []api.Interval{Join(a, b), Meet(a, b)}
			for _, op := range operators {
				x, y := Refine(op, true, a, b)
				u, v := Refine(op, false, a, b)
				results = append(results, Do(op, a, b), x, y, u, v)
			}
			for i, r := range results {
				if !Valid(r) {
					t.Fatalf("%+v, %+v: result %d is %+v", a, b, i, r)
				}
			}
		}
	}
}

package congruence

import (
	"math"
	"testing"
	"timebound/api"
	"timebound/word"
)

const (
	lowest  = -1 << 31
	highest = 1<<31 - 1
)

var (
	all  = mod(1, 0)
	none = mod(-1, 0)
)

// mod is the words that are r modulo m.
func mod(m, r int) api.Residue { return api.Residue{M: m, R: r} }

// one is one word.
func one(n int) api.Residue { return api.Residue{M: 0, R: n} }

// rest is n modulo m, from 0 to m - 1.
func rest(n, m int) int { return (n%m + m) % m }

// invalid are residues that count as All.
var invalid = []api.Residue{
	mod(-1, 1), mod(-1, -1), mod(-1, 1<<31), mod(-2, 0), mod(-2, 1), mod(-4, 3), mod(-8, 3), mod(lowest, 0), mod(math.MinInt, 0), mod(math.MinInt, 5), mod(math.MinInt, -5),
	one(highest + 1), one(lowest - 1), one(1<<32 + 3), one(math.MaxInt), one(math.MinInt),
	mod(1, 1), mod(1, -1), mod(2, 2), mod(2, -1), mod(4, 5), mod(8, 8), mod(8, -1), mod(8, 11), mod(8, 1<<32+3), mod(1<<30, 1<<30), mod(1<<30, -1), mod(1<<30, math.MaxInt), mod(1<<29, 1<<29),
	mod(3, 0), mod(3, 3), mod(5, 1), mod(6, 1), mod(6, 3), mod(7, 6), mod(12, 4), mod(1<<30-1, 0), mod(1<<30+1, 0), mod(3<<28, 5),
	mod(1<<31, 0), mod(1<<31, 5), mod(1<<31, -5), mod(1<<32, 0), mod(1<<32, 5), mod(1<<33, 0), mod(1<<62, 1), mod(math.MaxInt, 0), mod(math.MaxInt, math.MaxInt),
}

// few is residues by all small powers of two, and by great ones of which each word can be looked at; words; and none.
func few() []api.Residue {
	l := []api.Residue{none}
	for m := 1; m <= 8; m *= 2 {
		for r := 0; r < m; r++ {
			l = append(l, mod(m, r))
		}
	}
	for n := -9; n <= 9; n++ {
		l = append(l, one(n))
	}
	for _, m := range []int{16, 32, 64, 1 << 28, 1 << 29, 1 << 30} {
		for _, r := range []int{0, 1, 5, 12, m/2 - 1, m / 2, m/2 + 1, m - 4, m - 1} {
			l = append(l, mod(m, r%m))
		}
	}
	for _, n := range []int{lowest, lowest + 1, lowest + 5, -1 << 30, -1<<30 + 1, -1 << 28, 16, 30, 31, 32, 33, 1 << 28, 1<<29 + 1, 1 << 30, 1<<30 + 5, highest - 7, highest - 1, highest} {
		l = append(l, one(n))
	}
	return l
}

// many is residues by each power of two, and words with a single bit, or all higher ones.
func many() []api.Residue {
	l := []api.Residue{none}
	for m := 1; m <= 1<<30; m *= 2 {
		l = append(l, mod(m, 0), mod(m, m-1), mod(m, m/2), mod(m, m/3), one(m), one(-m), one(m-1))
	}
	return append(l, one(0), one(lowest), one(highest))
}

// words is the words of a valid residue: all of them, or those of a window around 0 and at both ends.
func words(a api.Residue) []int {
	if a == none {
		return nil
	}
	if a.M == 0 {
		return []int{a.R}
	}
	var l []int
	if a.M >= 1<<28 {
		for n := lowest + a.R; n <= highest; n += a.M {
			l = append(l, n)
		}
		return l
	}
	for _, from := range []int{lowest, -128, 128 - a.M, highest - 2*a.M + 1} {
		first := from + rest(a.R-from, a.M)
		l = append(l, first, first+a.M)
	}
	for n := -128 + rest(a.R+128, a.M); n < 128; n += a.M {
		l = append(l, n)
	}
	return l
}

// lies is what the definition says of a word and a valid residue.
func lies(n int, a api.Residue) bool {
	return a.M == 0 && n == a.R || a.M > 0 && (n-a.R)%a.M == 0
}

// lie reports whether all words of a list are words of a residue.
func lie(list []int, a api.Residue) bool {
	for _, n := range list {
		if !lies(n, a) {
			return false
		}
	}
	return true
}

// fewest is the valid residue with the fewest words in which all words of a list lie.
func fewest(list []int) api.Residue {
	if len(list) == 0 {
		return none
	}
	best := one(list[0])
	for m := 1 << 30; !lie(list, best); m /= 2 {
		best = mod(m, rest(list[0], m))
	}
	return best
}

// P8.1

func TestAllNoneAndOf(t *testing.T) {
	if All() != all || None() != none {
		t.Errorf("%+v, %+v", All(), None())
	}
	for _, c := range []struct{ n, want int }{
		{0, 0}, {7, 7}, {-3, -3}, {highest, highest}, {lowest, lowest}, {highest + 1, lowest}, {lowest - 1, highest}, {1<<32 + 5, 5}, {-1 << 32, 0}, {math.MaxInt, -1}, {math.MinInt, 0},
	} {
		if got := Of(c.n); got != one(c.want) {
			t.Errorf("Of(%d) is %+v, not %+v", c.n, got, one(c.want))
		}
	}
}

func TestValid(t *testing.T) {
	for _, a := range append(few(), many()...) {
		if !Valid(a) {
			t.Errorf("%+v is not valid", a)
		}
	}
	for _, a := range invalid {
		if Valid(a) {
			t.Errorf("%+v is valid", a)
		}
	}
	// By each M there is one R too few and one too many.
	for m := 1; m <= 1<<30; m *= 2 {
		if !Valid(mod(m, 0)) || !Valid(mod(m, m-1)) || Valid(mod(m, -1)) || Valid(mod(m, m)) || Valid(mod(-m, -1)) || Valid(mod(3*m, 0)) {
			t.Errorf("residues by %d", m)
		}
	}
}

func TestValidAgainstDefinition(t *testing.T) {
	powers := map[int]bool{1: true, 2: true, 4: true, 8: true, 16: true}
	for m := -20; m <= 20; m++ {
		for r := -20; r <= 20; r++ {
			if want := m == -1 && r == 0 || m == 0 || powers[m] && 0 <= r && r < m; Valid(mod(m, r)) != want {
				t.Errorf("Valid(%+v) is %t", mod(m, r), !want)
			}
		}
	}
}

func TestHas(t *testing.T) {
	for _, c := range []struct {
		a    api.Residue
		n    int
		want bool
	}{
		{mod(8, 3), 3, true}, {mod(8, 3), 11, true}, {mod(8, 3), -5, true}, {mod(8, 3), 4, false}, {mod(8, 3), 7, false}, {mod(8, 3), 2, false}, {mod(8, 3), -3, false}, {mod(8, 3), 0, false},
		{mod(2, 0), lowest, true}, {mod(2, 0), highest, false}, {mod(2, 1), highest, true}, {mod(1<<30, 5), 5 - 1<<30, true}, {mod(1<<30, 5), 5 + 1<<30, true}, {mod(1<<30, 5), lowest + 5, true}, {mod(1<<30, 5), 5 + 1<<29, false},
		{one(5), 5, true}, {one(5), 4, false}, {one(5), 6, false}, {one(5), -5, false}, {one(0), 0, true}, {one(lowest), lowest, true}, {one(lowest), highest + 1, false}, {one(highest), lowest - 1, false},
		{all, 0, true}, {all, lowest, true}, {all, highest, true}, {none, 0, false}, {none, -1, false}, {none, 1, false}, {none, lowest, false},
		// These are equal to words of the residue modulo 2^32, and no words.
		{one(5), 5 + 1<<32, false}, {mod(8, 3), 3 + 1<<32, false}, {mod(8, 3), 3 + 1<<31, false}, {mod(8, 3), 3 - 1<<32, false}, {all, highest + 1, false}, {all, lowest - 1, false}, {all, math.MinInt, false}, {all, math.MaxInt, false}, {none, math.MaxInt, false},
	} {
		if Has(c.a, c.n) != c.want {
			t.Errorf("Has(%+v, %d) is %t", c.a, c.n, !c.want)
		}
	}
	// What is not valid has all words, and nothing else, whatever its fields are.
	for _, a := range invalid {
		for _, n := range []int{lowest, -3, -1, 0, 1, 2, 100, highest, lowest - 1, highest + 1, math.MinInt, math.MaxInt, a.M, a.R} {
			if want := word.Wrap(n) == n; Has(a, n) != want {
				t.Errorf("Has(%+v, %d) is %t", a, n, !want)
			}
		}
	}
}

// P8.2

func TestLeq(t *testing.T) {
	for _, c := range []struct {
		a, b api.Residue
		want bool
	}{
		{mod(8, 5), mod(4, 1), true}, {mod(8, 5), mod(8, 5), true}, {mod(8, 5), all, true}, {mod(8, 5), mod(2, 1), true}, {mod(8, 5), mod(4, 2), false}, {mod(8, 5), mod(8, 1), false}, {mod(8, 5), mod(16, 5), false}, {mod(4, 1), mod(8, 5), false}, {mod(4, 1), mod(8, 1), false},
		{one(5), mod(4, 1), true}, {one(-3), mod(4, 1), true}, {one(6), mod(4, 1), false}, {one(5), one(5), true}, {one(5), one(6), false}, {one(5), one(5 - 1<<30), false}, {one(5), mod(1<<30, 5), true}, {one(lowest + 5), mod(1<<30, 5), true}, {one(lowest), mod(1<<30, 5), false},
		{mod(4, 1), one(1), false}, {mod(1<<30, 5), one(5), false}, {all, one(0), false}, {all, mod(2, 0), false}, {mod(1<<30, 5), mod(1<<29, 5), true}, {mod(1<<29, 5), mod(1<<30, 5), false},
		{none, none, true}, {none, one(0), true}, {none, one(-1), true}, {none, mod(8, 1), true}, {none, all, true}, {one(0), none, false}, {one(-1), none, false}, {mod(1<<30, 0), none, false}, {all, none, false}, {all, all, true},
		{mod(6, 1), all, true}, {mod(6, 1), mod(2, 1), false}, {mod(6, 1), mod(6, 1), true}, {mod(6, 1), mod(12, 1), true}, {all, mod(8, 8), true}, {mod(8, 8), mod(8, 0), false}, {one(1 << 32), one(0), false}, {one(4), mod(3, 2), true}, {mod(3, 2), none, false}, {none, mod(3, 2), true},
	} {
		if Leq(c.a, c.b) != c.want {
			t.Errorf("Leq(%+v, %+v) is %t", c.a, c.b, !c.want)
		}
	}
}

func TestJoinAndMeet(t *testing.T) {
	for _, c := range []struct{ a, b, join, meet api.Residue }{
		{one(3), one(11), mod(8, 3), none}, {one(3), one(3), one(3), one(3)}, {one(-3), one(-3), one(-3), one(-3)}, {one(0), one(-2), mod(2, 0), none}, {one(-3), one(5), mod(8, 5), none}, {one(-1), one(1), mod(2, 1), none}, {one(4), one(7), all, none}, {one(lowest), one(highest), all, none},
		// 2^30 is the greatest M, even where 2^31 divides the difference.
		{one(lowest), one(0), mod(1<<30, 0), none}, {one(lowest + 7), one(7), mod(1<<30, 7), none}, {one(-1 << 30), one(1 << 30), mod(1<<30, 0), none}, {one(-1), one(highest), mod(1<<30, 1<<30-1), none}, {one(1 << 30), one(0), mod(1<<30, 0), none}, {one(1 << 29), one(0), mod(1<<29, 0), none},
		{mod(8, 1), mod(8, 5), mod(4, 1), none}, {mod(8, 1), mod(8, 1), mod(8, 1), mod(8, 1)}, {mod(8, 1), mod(4, 1), mod(4, 1), mod(8, 1)}, {mod(8, 5), mod(4, 1), mod(4, 1), mod(8, 5)}, {mod(8, 1), mod(2, 0), all, none}, {mod(16, 5), mod(8, 1), mod(4, 1), none}, {mod(16, 3), mod(4, 1), mod(2, 1), none}, {mod(1<<30, 1), mod(1<<30, 1+1<<29), mod(1<<29, 1), none},
		{mod(8, 1), one(9), mod(8, 1), one(9)}, {mod(8, 1), one(-7), mod(8, 1), one(-7)}, {mod(8, 1), one(10), all, none}, {mod(16, 5), one(13), mod(8, 5), none}, {mod(16, 5), one(-3), mod(8, 5), none}, {mod(8, 5), one(21), mod(8, 5), one(21)}, {mod(1<<30, 5), one(5), mod(1<<30, 5), one(5)},
		{all, one(0), all, one(0)}, {all, mod(8, 3), all, mod(8, 3)}, {all, all, all, all}, {all, none, all, none}, {none, none, none, none}, {none, one(0), one(0), none}, {none, one(-1), one(-1), none}, {none, mod(4, 1), mod(4, 1), none}, {none, mod(1<<30, 0), mod(1<<30, 0), none},
		{mod(3, 3), mod(8, 1), all, mod(8, 1)}, {mod(3, 3), one(4), all, one(4)}, {mod(3, 3), none, all, none}, {mod(3, 3), mod(8, 8), all, all}, {mod(8, 8), mod(8, 8), all, all}, {one(1 << 32), one(0), all, one(0)}, {one(1 << 31), one(1 << 31), all, all}, {mod(-1, 1), one(2), all, one(2)},
	} {
		if j, k := Join(c.a, c.b), Join(c.b, c.a); j != c.join || k != c.join {
			t.Errorf("Join(%+v, %+v) is %+v, or %+v, not %+v", c.a, c.b, j, k, c.join)
		}
		if m, n := Meet(c.a, c.b), Meet(c.b, c.a); m != c.meet || n != c.meet {
			t.Errorf("Meet(%+v, %+v) is %+v, or %+v, not %+v", c.a, c.b, m, n, c.meet)
		}
	}
}

// TestOrderAgainstWords compares the order with words of both.
func TestOrderAgainstWords(t *testing.T) {
	for _, a := range few() {
		for _, b := range few() {
			for _, n := range words(a) {
				if Has(b, n) != lies(n, b) {
					t.Fatalf("Has(%+v, %d) is %t", b, n, !lies(n, b))
				}
			}
			if want := lie(words(a), b); Leq(a, b) != want {
				t.Fatalf("Leq(%+v, %+v) is %t", a, b, !want)
			}
			if got, want := Join(a, b), fewest(append(words(a), words(b)...)); got != want {
				t.Fatalf("Join(%+v, %+v) is %+v, not %+v", a, b, got, want)
			}
			var both []int
			for _, n := range append(words(a), words(b)...) {
				if lies(n, a) && lies(n, b) {
					both = append(both, n)
				}
			}
			if got, want := Meet(a, b), fewest(both); got != want {
				t.Fatalf("Meet(%+v, %+v) is %+v, not %+v", a, b, got, want)
			}
		}
	}
}

// TestBoundsOfOrder shows that Leq is an order, Join its least upper bound and Meet its greatest lower one.
func TestBoundsOfOrder(t *testing.T) {
	l := few()
	for _, a := range l {
		for _, b := range l {
			j, m := Join(a, b), Meet(a, b)
			if !Leq(a, j) || !Leq(b, j) || !Leq(m, a) || !Leq(m, b) {
				t.Fatalf("%+v, %+v: no bounds: %+v, %+v", a, b, j, m)
			}
			if (Leq(a, b) && Leq(b, a)) != (a == b) {
				t.Fatalf("%+v, %+v: no order", a, b)
			}
			for _, c := range l {
				if Leq(a, c) && Leq(b, c) && !Leq(j, c) || Leq(c, a) && Leq(c, b) && !Leq(c, m) {
					t.Fatalf("%+v, %+v: %+v is nearer than %+v, %+v", a, b, c, j, m)
				}
				if Leq(a, b) && Leq(b, c) && !Leq(a, c) {
					t.Fatalf("%+v, %+v, %+v: no order", a, b, c)
				}
			}
		}
	}
}

// All promises

// TestInvalidAreAll shows that each call takes what is not valid as All, in both places.
func TestInvalidAreAll(t *testing.T) {
	others := append([]api.Residue{none, all, one(0), one(1), one(-5), one(33), one(lowest), one(highest), mod(2, 1), mod(8, 3), mod(1<<30, 5)}, invalid...)
	for _, a := range invalid {
		for _, b := range others {
			if Join(a, b) != Join(all, b) || Join(b, a) != Join(b, all) || Meet(a, b) != Meet(all, b) || Meet(b, a) != Meet(b, all) || Leq(a, b) != Leq(all, b) || Leq(b, a) != Leq(b, all) {
				t.Errorf("the order of %+v and %+v", a, b)
			}
			for _, op := range operators {
				if Do(op, a, b) != Do(op, all, b) || Do(op, b, a) != Do(op, b, all) {
					t.Errorf("operator %d, %+v and %+v", op, a, b)
				}
			}
		}
	}
}

// TestResultsAreValid shows that there is no result that would count as another one.
func TestResultsAreValid(t *testing.T) {
	l := append(append(few(), many()...), invalid...)
	for _, a := range l {
		for _, b := range l {
			results := []api.Residue{Join(a, b), Meet(a, b)}
			for _, op := range operators {
				results = append(results, Do(op, a, b))
			}
			for i, r := range results {
				if !Valid(r) {
					t.Fatalf("%+v, %+v: result %d is %+v", a, b, i, r)
				}
			}
		}
	}
}

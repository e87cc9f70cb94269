package interval

import (
	"testing"
	"timebound/api"
	"timebound/word"
)

type refined struct {
	op         int
	truth      bool
	a, b, x, y api.Interval
}

func refine(t *testing.T, list []refined) {
	t.Helper()
	for _, c := range list {
		if x, y := Refine(c.op, c.truth, c.a, c.b); x != c.x || y != c.y {
			t.Errorf("Refine(%d, %t, %+v, %+v) is %+v, %+v, not %+v, %+v", c.op, c.truth, c.a, c.b, x, y, c.x, c.y)
		}
	}
}

// P7.3

func TestRefineLt(t *testing.T) {
	refine(t, []refined{
		{api.Lt, true, in(0, 9), in(0, 5), in(0, 4), in(1, 5)}, {api.Lt, true, in(0, 3), in(2, 9), in(0, 3), in(2, 9)}, {api.Lt, true, in(0, 9), in(2, 9), in(0, 8), in(2, 9)}, {api.Lt, true, in(0, 1), in(0, 1), in(0, 0), in(1, 1)},
		{api.Lt, true, in(5, 9), in(0, 5), none, none}, {api.Lt, true, in(4, 9), in(0, 5), in(4, 4), in(5, 5)}, {api.Lt, true, all, all, in(lowest, highest-1), in(lowest+1, highest)},
		{api.Lt, true, all, in(lowest, lowest), none, none}, {api.Lt, true, in(highest, highest), all, none, none}, {api.Lt, true, all, in(lowest+1, lowest+1), in(lowest, lowest), in(lowest+1, lowest+1)},
		{api.Lt, false, in(0, 9), in(3, 12), in(3, 9), in(3, 9)}, {api.Lt, false, in(0, 2), in(3, 4), none, none}, {api.Lt, false, in(0, 3), in(3, 4), in(3, 3), in(3, 3)}, {api.Lt, false, in(5, 9), in(0, 5), in(5, 9), in(0, 5)},
		{api.Lt, false, all, all, all, all}, {api.Lt, false, in(lowest, lowest), all, in(lowest, lowest), in(lowest, lowest)}, {api.Lt, false, all, in(highest, highest), in(highest, highest), in(highest, highest)},
	})
}

func TestRefineLe(t *testing.T) {
	refine(t, []refined{
		{api.Le, true, in(0, 9), in(-3, 5), in(0, 5), in(0, 5)}, {api.Le, true, in(6, 9), in(0, 5), none, none}, {api.Le, true, in(5, 9), in(0, 5), in(5, 5), in(5, 5)}, {api.Le, true, in(0, 3), in(3, 9), in(0, 3), in(3, 9)}, {api.Le, true, all, all, all, all},
		{api.Le, false, in(0, 9), in(3, 12), in(4, 9), in(3, 8)}, {api.Le, false, in(0, 3), in(3, 12), none, none}, {api.Le, false, in(0, 4), in(3, 12), in(4, 4), in(3, 3)}, {api.Le, false, in(6, 9), in(0, 5), in(6, 9), in(0, 5)},
		{api.Le, false, all, all, in(lowest+1, highest), in(lowest, highest-1)}, {api.Le, false, all, in(highest, highest), none, none}, {api.Le, false, in(lowest, lowest), all, none, none},
	})
}

func TestRefineEqAndNe(t *testing.T) {
	for _, same := range []refined{
		{a: in(0, 9), b: in(3, 12), x: in(3, 9), y: in(3, 9)}, {a: in(0, 9), b: in(3, 4), x: in(3, 4), y: in(3, 4)}, {a: in(0, 2), b: in(3, 12), x: none, y: none}, {a: in(0, 3), b: in(3, 12), x: in(3, 3), y: in(3, 3)},
		{a: in(4, 4), b: in(4, 4), x: in(4, 4), y: in(4, 4)}, {a: in(4, 4), b: in(5, 5), x: none, y: none}, {a: all, b: in(-3, 3), x: in(-3, 3), y: in(-3, 3)},
	} {
		refine(t, []refined{{api.Eq, true, same.a, same.b, same.x, same.y}, {api.Eq, true, same.b, same.a, same.y, same.x}, {api.Ne, false, same.a, same.b, same.x, same.y}, {api.Ne, false, same.b, same.a, same.y, same.x}})
	}
	for _, other := range []refined{
		{a: in(0, 9), b: in(0, 0), x: in(1, 9), y: in(0, 0)}, {a: in(0, 9), b: in(9, 9), x: in(0, 8), y: in(9, 9)}, {a: in(0, 9), b: in(5, 5), x: in(0, 9), y: in(5, 5)}, {a: in(0, 9), b: in(10, 10), x: in(0, 9), y: in(10, 10)},
		{a: in(0, 1), b: in(1, 1), x: in(0, 0), y: in(1, 1)}, {a: in(0, 1), b: in(0, 0), x: in(1, 1), y: in(0, 0)}, {a: in(4, 4), b: in(4, 4), x: none, y: none}, {a: in(4, 4), b: in(5, 5), x: in(4, 4), y: in(5, 5)},
		{a: in(1, 2), b: in(1, 2), x: in(1, 2), y: in(1, 2)}, {a: in(1, 2), b: in(2, 3), x: in(1, 2), y: in(2, 3)}, {a: all, b: in(lowest, lowest), x: in(lowest+1, highest), y: in(lowest, lowest)}, {a: all, b: in(highest, highest), x: in(lowest, highest-1), y: in(highest, highest)},
		{a: in(highest, highest), b: in(highest, highest), x: none, y: none}, {a: in(lowest, lowest), b: in(lowest, lowest), x: none, y: none},
	} {
		refine(t, []refined{{api.Eq, false, other.a, other.b, other.x, other.y}, {api.Eq, false, other.b, other.a, other.y, other.x}, {api.Ne, true, other.a, other.b, other.x, other.y}, {api.Ne, true, other.b, other.a, other.y, other.x}})
	}
}

func TestRefineNone(t *testing.T) {
	for op := api.Lt; op <= api.Ne; op++ {
		for _, truth := range []bool{true, false} {
			for _, a := range append(wide(), invalid...) {
				refine(t, []refined{{op, truth, none, a, none, none}, {op, truth, a, none, none, none}})
			}
		}
	}
}

func TestRefineOtherOperators(t *testing.T) {
	for _, op := range operators {
		if op >= api.Lt && op <= api.Ne {
			continue
		}
		for _, truth := range []bool{true, false} {
			refine(t, []refined{
				{op, truth, in(0, 9), in(3, 4), in(0, 9), in(3, 4)}, {op, truth, in(4, 4), in(4, 4), in(4, 4), in(4, 4)}, {op, truth, none, in(1, 2), none, in(1, 2)}, {op, truth, in(1, 2), none, in(1, 2), none},
				{op, truth, none, none, none, none}, {op, truth, in(0, 9), in(9, 3), in(0, 9), all}, {op, truth, in(0, 1<<32), none, all, none},
			})
		}
	}
}

// TestRefineAgainstWords looks at all pairs of words.
func TestRefineAgainstWords(t *testing.T) {
	for op := api.Lt; op <= api.Ne; op++ {
		for _, a := range small() {
			for _, b := range small() {
				var left, right [2][]int
				for _, x := range words(a) {
					for _, y := range words(b) {
						n, _ := word.Do(op, x, y)
						left[n], right[n] = append(left[n], x), append(right[n], y)
					}
				}
				for n, truth := range []bool{false, true} {
					refine(t, []refined{{op, truth, a, b, hull(left[n]), hull(right[n])}})
				}
			}
		}
	}
}

// TestRefineLosesNoPair has intervals with more words than can be looked at.
func TestRefineLosesNoPair(t *testing.T) {
	for op := api.Lt; op <= api.Ne; op++ {
		for _, a := range wide() {
			for _, b := range wide() {
				for _, x := range samples(a) {
					for _, y := range samples(b) {
						n, _ := word.Do(op, x, y)
						if u, v := Refine(op, n == 1, a, b); !Has(u, x) || !Has(v, y) || !Leq(u, a) || !Leq(v, b) {
							t.Fatalf("Refine(%d, %d, %+v, %+v) is %+v, %+v, without %d or %d", op, n, a, b, u, v, x, y)
						}
					}
				}
			}
		}
	}
}

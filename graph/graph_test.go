package graph

import (
	"fmt"
	"math"
	"math/rand"
	"slices"
	"testing"
	"timebound/api"
)

// ways is a graph of empty blocks with these successors. Each block is a head, with a Max of its own.
func ways(next ...[]int) api.Graph {
	g := api.Graph{Vars: 1}
	for b, l := range next {
		g.Blocks = append(g.Blocks, api.Block{Next: l})
		g.Heads = append(g.Heads, api.Head{Block: b, Max: 10 + b})
	}
	return g
}

func to(l ...int) []int { return l }

// same reports whether lists of lists have the same numbers.
func same(a, b [][]int) bool { return slices.EqualFunc(a, b, slices.Equal) }

// P12.1: Before and Reached

func TestBeforeAndReached(t *testing.T) {
	yes, no := true, false
	for name, c := range map[string]struct {
		g       api.Graph
		before  [][]int
		reached []bool
	}{
		"no block":            {api.Graph{}, nil, nil},
		"no block, but heads": {api.Graph{Heads: []api.Head{{Block: 1}}, Points: [][]int{{0}}}, nil, nil},
		"one block":           {ways(nil), [][]int{nil}, []bool{yes}},
		"a row":               {ways(to(1), to(2), nil), [][]int{nil, {0}, {1}}, []bool{yes, yes, yes}},
		"both ways":           {ways(to(1, 2), to(3), to(3), nil), [][]int{nil, {0}, {0}, {1, 2}}, []bool{yes, yes, yes, yes}},
		"the other way round": {ways(to(3, 1), to(2), nil, to(2, 1)), [][]int{nil, {0, 3}, {1, 3}, {0}}, []bool{yes, yes, yes, yes}},
		"not reached":         {ways(to(2), to(2), nil), [][]int{nil, nil, {0, 1}}, []bool{yes, no, yes}},
		"a loop apart":        {ways(nil, to(2), to(1, 0)), [][]int{{2}, {2}, {1}}, []bool{yes, no, no}},
		"to itself":           {ways(to(1), to(1, 2), nil), [][]int{nil, {0, 1}, {1}}, []bool{yes, yes, yes}},
		"the first to itself": {ways(to(0)), [][]int{{0}}, []bool{yes}},
		"twice":               {ways(to(1, 1), nil), [][]int{nil, {0}}, []bool{yes, yes}},
		"twice, not in a row": {ways(to(1, 0, 1, 0), to(1)), [][]int{{0}, {0, 1}}, []bool{yes, yes}},
		"no blocks":           {ways(to(-1, 2, math.MinInt, math.MaxInt, 1), nil), [][]int{nil, {0}}, []bool{yes, yes}},
		"no block behind":     {ways(to(3), to(0), to(-1)), [][]int{{1}, nil, nil}, []bool{yes, no, no}},
		"many successors":     {ways(to(3, 2, 1), to(3), nil, nil), [][]int{nil, {0}, {0}, {0, 1}}, []bool{yes, yes, yes, yes}},
		"ways back":           {ways(to(1), to(2), to(1, 3), to(0)), [][]int{{3}, {0, 2}, {1}, {2}}, []bool{yes, yes, yes, yes}},
	} {
		if l := Before(c.g); !same(l, c.before) {
			t.Errorf("%s: before %v, not %v", name, l, c.before)
		}
		if l := Reached(c.g); !slices.Equal(l, c.reached) {
			t.Errorf("%s: reached %v, not %v", name, l, c.reached)
		}
	}
}

// TestBeforeAndReachedAgainstAMatrix has random successors, some of which are no blocks.
func TestBeforeAndReachedAgainstAMatrix(t *testing.T) {
	r := rand.New(rand.NewSource(12))
	reached, left := 0, 0
	for range 3000 {
		n := 1 + r.Intn(9)
		next := make([][]int, n)
		edge, way := make([][]bool, n), make([][]bool, n)
		for a := range n {
			edge[a], way[a] = make([]bool, n), make([]bool, n)
			for range r.Intn(4) {
				b := r.Intn(n+2) - 1
				next[a] = append(next[a], b)
				if b >= 0 && b < n {
					edge[a][b], way[a][b] = true, true
				}
			}
			way[a][a] = true
		}
		for mid := range n {
			for a := range n {
				for b := range n {
					way[a][b] = way[a][b] || way[a][mid] && way[mid][b]
				}
			}
		}
		g := ways(next...)
		before := make([][]int, n)
		for b := range n {
			for a := range n {
				if edge[a][b] {
					before[b] = append(before[b], a)
				}
			}
			if way[0][b] {
				reached++
			} else {
				left++
			}
		}
		if l := Before(g); !same(l, before) {
			t.Fatalf("%v: before %v, not %v", next, l, before)
		}
		if l := Reached(g); !slices.Equal(l, way[0]) {
			t.Fatalf("%v: reached %v, not %v", next, l, way[0])
		}
	}
	if reached < 1000 || left < 1000 {
		t.Errorf("%d blocks are reached, %d are not", reached, left)
	}
}

// TestLongWays has more blocks than a valid graph: they are found all the same.
func TestLongWays(t *testing.T) {
	const n = 200000
	next := make([][]int, n)
	for b := range next {
		next[b] = to(b+1, 0, n/2)
	}
	g := ways(next...)
	if l := Reached(g); len(l) != n || slices.Contains(l, false) {
		t.Error("not all are reached")
	}
	l := Before(g)
	if len(l) != n || len(l[0]) != n || len(l[n/2]) != n || !slices.Equal(l[n-1], to(n-2)) {
		t.Error("not all are before")
	}
}

// TestBeforeIsNew changes what was returned: no other list changes, and neither does the graph.
func TestBeforeIsNew(t *testing.T) {
	g := ways(to(1, 2), to(2, 3), to(1, 3), nil)
	want := Before(g)
	for b, l := range want {
		other := Before(g)
		for i := range other[b] {
			other[b][i] = 9
		}
		_ = append(other[b], 9)
		for c := range want {
			if c != b && !slices.Equal(other[c], want[c]) {
				t.Errorf("list %d has changed list %d", b, c)
			}
		}
		if !slices.Equal(l, Before(g)[b]) {
			t.Errorf("list %d has changed the graph", b)
		}
	}
	if !same([][]int{g.Blocks[0].Next, g.Blocks[1].Next, g.Blocks[2].Next}, [][]int{{1, 2}, {2, 3}, {1, 3}}) {
		t.Errorf("%v", g.Blocks)
	}
}

// TestAnything has graphs of any numbers: all calls end, and what Check refuses has no loops.
func TestAnything(t *testing.T) {
	r := rand.New(rand.NewSource(1))
	n := func() int { return []int{0, 1, 2, 3, -1, 7, 64, math.MinInt, math.MaxInt}[r.Intn(9)] }
	list := func() []int { return []int{n(), n(), n()}[:r.Intn(4)] }
	for range 20000 {
		g := api.Graph{Vars: n(), Keep: n(), Shared: n()}
		for range r.Intn(5) {
			g.Inputs = append(g.Inputs, api.Input{Lo: n(), Hi: n()})
			g.Arrays = append(g.Arrays, api.Array{Size: n()})
			g.Points = append(g.Points, list())
			g.Heads = append(g.Heads, api.Head{Block: n(), Max: n()})
			op := api.Op{Kind: r.Intn(9), Dst: n(), A: n(), B: n(), Imm: n()}
			g.Blocks = append(g.Blocks, api.Block{Ops: []api.Op{op}, Cond: n(), Next: list()})
		}
		before := text(g)
		e := Check(g)
		if l, f := Loops(g); e != api.OK && (f != e || len(l) != 0) {
			t.Fatalf("%s: errors %d and %d", before, e, f)
		}
		if len(Before(g)) != len(g.Blocks) || len(Reached(g)) != len(g.Blocks) || text(g) != before {
			t.Fatalf("%s: before %v, reached %v", before, Before(g), Reached(g))
		}
	}
}

// text is all that a value has, to compare it later.
func text(x any) string { return fmt.Sprintf("%+v", x) }

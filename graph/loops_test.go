package graph

import (
	"fmt"
	"math/bits"
	"math/rand"
	"slices"
	"strings"
	"testing"
	"timebound/api"
)

// report writes loops: the block before, the header and Max, the loop around, and the blocks.
func report(loops []api.Loop) string {
	var l []string
	for _, x := range loops {
		l = append(l, fmt.Sprintf("%d>%d*%d in %d: %v", x.Before, x.Header, x.Max, x.Around, x.Nodes))
	}
	return strings.Join(l, "; ")
}

// looping looks at the loops of a graph, or at their error.
func looping(t *testing.T, name string, g api.Graph, want string) {
	t.Helper()
	before := text(g)
	l, e := Loops(g)
	if e != api.OK || report(l) != want {
		t.Errorf("%s: error %d\n     %s\nnot: %s", name, e, report(l), want)
	}
	if text(g) != before {
		t.Errorf("%s: the graph has changed", name)
	}
}

// P12.2: Loops

func TestLoops(t *testing.T) {
	for name, c := range map[string]struct {
		g    api.Graph
		want string
	}{
		"one block":                   {ways(nil), ""},
		"no loop":                     {ways(to(1, 2), to(3), to(3), nil), ""},
		"no loop, the other way":      {ways(to(3, 2), nil, to(1), to(2)), ""},
		"itself":                      {ways(to(1), to(1, 2), nil), "0>1*11 in -1: [1]"},
		"itself, without an end":      {ways(to(1, 2), to(1), nil), "0>1*11 in -1: [1]"},
		"a body":                      {ways(to(1), to(2, 3), to(1), nil), "0>1*11 in -1: [1 2]"},
		"the exit is not in it":       {ways(to(2), nil, to(3, 1), to(2)), "0>2*12 in -1: [2 3]"},
		"left in the middle":          {ways(to(1), to(2), to(3, 4), to(1), nil), "0>1*11 in -1: [1 2 3]"},
		"left in two ways":            {ways(to(1), to(2, 4), to(3, 4), to(1), nil), "0>1*11 in -1: [1 2 3]"},
		"an if in it":                 {ways(to(1), to(2, 5), to(3, 4), to(1), to(1), nil), "0>1*11 in -1: [1 2 3 4]"},
		"two back edges":              {ways(to(1), to(2, 4), to(1, 3), to(1), nil), "0>1*11 in -1: [1 2 3]"},
		"a way in it that leaves":     {ways(to(1), to(2, 3), to(4), to(1, 4), nil), "0>1*11 in -1: [1 3]"},
		"one behind the other":        {ways(to(1), to(1, 2), to(2, 3), nil), "0>1*11 in -1: [1]; 1>2*12 in -1: [2]"},
		"the greater one first":       {ways(to(1), to(1, 2), to(3, 4), to(2), nil), "1>2*12 in -1: [2 3]; 0>1*11 in -1: [1]"},
		"equal ones by headers":       {ways(to(4), to(2), to(1, 3), nil, to(5), to(4, 1)), "5>1*11 in -1: [1 2]; 0>4*14 in -1: [4 5]"},
		"in one another":              {ways(to(1), to(2, 5), to(3, 4), to(2), to(1), nil), "0>1*11 in -1: [1 2 3 4]; 1>2*12 in 0: [2 3]"},
		"three in one another":        {ways(to(1), to(2, 7), to(3, 6), to(4, 5), to(3), to(2), to(1), nil), "0>1*11 in -1: [1 2 3 4 5 6]; 1>2*12 in 0: [2 3 4 5]; 2>3*13 in 1: [3 4]"},
		"the outer one is later":      {ways(to(4), to(2, 3), to(1), to(4), to(1, 5), nil), "0>4*14 in -1: [1 2 3 4]; 4>1*11 in 0: [1 2]"},
		"two in one":                  {ways(to(1), to(2, 6), to(3), to(3, 4), to(4, 5), to(1), nil), "0>1*11 in -1: [1 2 3 4 5]; 2>3*13 in 0: [3]; 3>4*14 in 0: [4]"},
		"two in two":                  {ways(to(1), to(2, 3), to(2, 1), to(4, 5), to(4, 3), nil), "0>1*11 in -1: [1 2]; 1>3*13 in -1: [3 4]; 1>2*12 in 0: [2]; 3>4*14 in 1: [4]"},
		"an inner one is left to its": {ways(to(1), to(2, 3), to(1, 2), nil), "0>1*11 in -1: [1 2]; 1>2*12 in 0: [2]"},
		"a header leads to a header":  {ways(to(1), to(2), to(2, 3), to(1, 4), nil), "0>1*11 in -1: [1 2 3]; 1>2*12 in 0: [2]"},
		"what is not reached":         {ways(to(1), to(2, 3), to(1), nil, to(1)), "0>1*11 in -1: [1 2]"},
		"a loop that is not reached":  {ways(to(1), nil, to(3), to(2, 4), to(2)), ""},
		"not reached, in two ways":    {ways(to(1), nil, to(3, 4), to(4), to(3, 1)), ""},
		"not reached, into a body":    {ways(to(1), to(2, 3), to(1), nil, to(5), to(2)), "0>1*11 in -1: [1 2]"},
		"before is far away":          {ways(to(5), to(2, 3), to(1), nil, to(1), to(4)), "4>1*11 in -1: [1 2]"},
		"before is one way of an if":  {ways(to(1, 2), to(2), to(3), to(3, 4), nil), "2>3*13 in -1: [3]"},
	} {
		looping(t, name, c.g, c.want)
	}
}

func TestErrorsOfLoops(t *testing.T) {
	for name, g := range map[string]api.Graph{
		"two ways into a cycle":     ways(to(1, 2), to(2), to(1, 3), nil),
		"into a loop's body":        ways(to(1, 3), to(2, 4), to(3), to(1), nil),
		"two ways into an inner":    ways(to(1), to(2, 3), to(3), to(2, 4), to(1, 5), nil),
		"two blocks before":         ways(to(1, 2), to(3), to(3), to(3, 4), nil),
		"two before, in a loop":     ways(to(1), to(2, 3), to(4), to(4), to(4, 5), to(1, 6), nil),
		"an if before":              ways(to(1, 2), to(2), to(2, 3), nil),
		"two ways, and behind them": ways(to(1), to(2, 3), to(3), to(2, 4), to(4, 5), nil),
	} {
		if l, e := Loops(g); e != api.ErrForm || len(l) != 0 {
			t.Errorf("%s: error %d, %s", name, e, report(l))
		}
	}
}

// TestHeads leaves out one head each: it is missed only if there is a loop, which is reached.
func TestHeads(t *testing.T) {
	g := ways(to(1), to(2, 5), to(3, 4), to(2), to(1), nil, to(6, 7), to(5))
	want := "0>1*11 in -1: [1 2 3 4]; 1>2*12 in 0: [2 3]"
	for b := range g.Blocks {
		other := g
		other.Heads = slices.Delete(slices.Clone(g.Heads), b, b+1)
		if b != 1 && b != 2 {
			looping(t, fmt.Sprint("no head ", b), other, want)
		} else if l, e := Loops(other); e != api.ErrForm || len(l) != 0 {
			t.Errorf("no head %d: error %d, %s", b, e, report(l))
		}
	}
	g.Heads = []api.Head{{Block: 1, Max: 0}, {Block: 2, Max: 4000}}
	looping(t, "no others", g, "0>1*0 in -1: [1 2 3 4]; 1>2*4000 in 0: [2 3]")
	g.Heads = nil
	if l, e := Loops(g); e != api.ErrForm || len(l) != 0 {
		t.Errorf("no heads: error %d, %s", e, report(l))
	}
}

// TestLoopsOfManyBlocks has as many blocks, and loops in one another, as there can be.
func TestLoopsOfManyBlocks(t *testing.T) {
	next := [][]int{to(1)}
	for b := 1; b < 62; b++ {
		next = append(next, to(b+1, 63))
	}
	g := ways(append(next, to(1, 63), nil)...)
	if l, e := Loops(g); e != api.OK || len(l) != 1 || len(l[0].Nodes) != 62 || l[0].Nodes[61] != 62 {
		t.Errorf("a long one: error %d, %s", e, report(l))
	}
	next = [][]int{to(1)}
	for b := 1; b < 63; b++ {
		next = append(next, to(b, b+1))
	}
	if l, e := Loops(ways(append(next, nil)...)); e != api.OK || len(l) != 62 || l[61].Header != 62 || l[61].Around != -1 {
		t.Errorf("behind one another: error %d, %s", e, report(l))
	}
	// The headers 1 to 31, and the ways back from 32 to 62, each one to the next outer header.
	next = [][]int{to(1)}
	for b := 1; b < 32; b++ {
		next = append(next, to(b+1))
	}
	for b := 32; b < 63; b++ {
		next = append(next, to(63-b, b+1))
	}
	l, e := Loops(ways(append(next, nil)...))
	if e != api.OK || len(l) != 31 {
		t.Fatalf("in one another: error %d, %s", e, report(l))
	}
	for i, x := range l {
		if x.Header != i+1 || x.Before != i || x.Around != i-1 || x.Max != 11+i || len(x.Nodes) != 62-2*i {
			t.Errorf("loop %d: %s", i, report(l[i:i+1]))
		}
	}
}

// set is a set of blocks, as bits.
type set uint64

func (s set) has(b int) bool { return s>>b&1 == 1 }

// oracle finds loops in another way than Loops: by equations for dominators, and by taking away blocks that nothing leads to.
func oracle(g api.Graph) ([]api.Loop, bool) {
	n := len(g.Blocks)
	before := make([]set, n)
	for changed, live := true, set(1); changed; {
		changed = false
		for a, b := range g.Blocks {
			for _, c := range b.Next {
				if live.has(a) && !before[c].has(a) {
					before[c] |= 1 << a
					live |= 1 << c
					changed = true
				}
			}
		}
	}
	dominators := slices.Repeat([]set{1<<n - 1}, n)
	dominators[0] = 1
	for range n {
		for b := 1; b < n; b++ {
			d := ^set(0)
			for a := range n {
				if before[b].has(a) {
					d &= dominators[a]
				}
			}
			dominators[b] = d&(1<<n-1) | 1<<b
		}
	}
	var loops []api.Loop
	ahead := slices.Clone(before)
	for h := range n {
		nodes := set(0)
		for a := range n {
			if before[h].has(a) && dominators[a].has(h) {
				ahead[h] &^= 1 << a
				nodes |= 1<<a | 1<<h
			}
		}
		if nodes == 0 {
			continue
		}
		for range n {
			for b := range n {
				if nodes.has(b) && b != h {
					nodes |= before[b]
				}
			}
		}
		out := before[h] &^ nodes
		if bits.OnesCount64(uint64(out)) != 1 {
			return nil, false
		}
		l := api.Loop{Header: h, Before: bits.TrailingZeros64(uint64(out)), Max: g.Heads[h].Max}
		for b := range n {
			if nodes.has(b) {
				l.Nodes = append(l.Nodes, b)
			}
		}
		loops = append(loops, l)
	}
	return loops, acyclic(ahead)
}

// acyclic reports whether all blocks can be taken away, each one when nothing that is left leads to it.
func acyclic(before []set) bool {
	left := set(1)<<len(before) - 1
	for range before {
		for b, l := range before {
			if l&left == 0 {
				left &^= 1 << b
			}
		}
	}
	return left == 0
}

// ordered brings the loops of the oracle into their order: each one moves in front of lesser ones.
func ordered(loops []api.Loop) []api.Loop {
	var out []api.Loop
	for n := 64; n > 0; n-- {
		for _, l := range loops {
			if len(l.Nodes) == n {
				l.Around = -1
				for i, x := range out {
					if slices.Contains(x.Nodes, l.Header) {
						l.Around = i
					}
				}
				out = append(out, l)
			}
		}
	}
	return out
}

// TestLoopsAgainstTheOracle has random graphs, most of them with ways back to few blocks.
func TestLoopsAgainstTheOracle(t *testing.T) {
	r := rand.New(rand.NewSource(122))
	right, wrong, deep := 0, 0, 0
	for range 60000 {
		n := 3 + r.Intn(10)
		next := make([][]int, n)
		for b := range n - 1 {
			next[b] = to(b + 1)
			if r.Intn(3) > 0 {
				next[b] = to(1 + r.Intn(n-1))
			}
			if other := 1 + r.Intn(n-1); r.Intn(2) == 0 && other != next[b][0] {
				next[b] = append(next[b], other)
			}
		}
		// Numbers of blocks say nothing about their order.
		p := append([]int{0}, r.Perm(n-1)...)
		for i := range p[1:] {
			p[i+1]++
		}
		shuffled := make([][]int, n)
		for b, l := range next {
			for _, c := range l {
				shuffled[p[b]] = append(shuffled[p[b]], p[c])
			}
		}
		g := ways(shuffled...)
		want, ok := oracle(g)
		l, e := Loops(g)
		switch {
		case !ok:
			wrong++
			if e != api.ErrForm || len(l) != 0 {
				t.Fatalf("%v: error %d, %s", shuffled, e, report(l))
			}
		case e != api.OK || report(l) != report(ordered(want)):
			t.Fatalf("%v: error %d\n     %s\nnot: %s", shuffled, e, report(l), report(ordered(want)))
		case len(l) > 0:
			right++
			if l[len(l)-1].Around > 0 {
				deep++
			}
		}
	}
	if right < 5000 || wrong < 5000 || deep < 100 {
		t.Errorf("%d graphs have loops, %d are wrong, %d loops are deep", right, wrong, deep)
	}
}

// TestLoopsAreNew changes what was returned: it is the caller's alone.
func TestLoopsAreNew(t *testing.T) {
	g := ways(to(1), to(2, 5), to(3, 4), to(2), to(1), nil)
	want, _ := Loops(g)
	l, _ := Loops(g)
	l[1].Nodes[0] = 9
	_ = append(l[1].Nodes, 9)
	if report(l[:1]) != report(want[:1]) {
		t.Errorf("%s, not %s", report(l[:1]), report(want[:1]))
	}
	l[0].Nodes[0] = 9
	looping(t, "again", g, report(want))
}

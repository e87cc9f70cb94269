package optimise

import (
	"slices"
	"testing"
	"timebound/api"
)

// standard looks at the passes for a graph, which has not changed: the three usual ones, and with a header an Unroll of it, and these again. They can be carried out.
func standard(t *testing.T, name string, g api.Graph, headers ...int) {
	t.Helper()
	before := text(g)
	want := row("F D M")
	for _, h := range headers {
		want = append(want, api.Pass{Kind: api.PassUnroll, Arg: h})
		want = append(want, row("F D M")...)
	}
	l, e := Standard(g)
	if e != api.OK || !slices.Equal(l, want) || text(g) != before {
		t.Errorf("%s: error %d, %v, not %v, %s", name, e, l, want, text(g))
	}
	ran(t, name, g, l)
}

// P18.2: which loop

func TestStandard(t *testing.T) {
	one := []api.Block{mark(0, 1), mark(1, 2, 3), mark(2, 1), mark(3)}
	// The inner loop has the header 2.
	nested := []api.Block{mark(0, 1), mark(1, 2, 5), mark(2, 3, 4), mark(3, 2), mark(4, 1), mark(5)}
	// The outer one has the greater number.
	turned := []api.Block{mark(0, 4), mark(1, 2, 3), mark(2, 1), mark(3, 4), mark(4, 1, 5), mark(5)}
	three := []api.Block{mark(0, 1), mark(1, 2, 7), mark(2, 3, 6), mark(3, 4, 5), mark(4, 3), mark(5, 2), mark(6, 1), mark(7)}
	// Behind each other: the second one is greater.
	two := []api.Block{mark(0, 1), mark(1, 1, 2), mark(2, 3), mark(3, 4, 5), mark(4, 3), mark(5)}
	equal := []api.Block{mark(0, 3), mark(1, 1, 2), mark(2), mark(3, 3, 4), mark(4, 1)}
	// Two loops in another one, which is followed by a third one: 2 has 1 block, 4 has 2, 8 has 2, too, 1 has 7.
	many := []api.Block{mark(0, 1), mark(1, 2, 7), mark(2, 2, 3), mark(3, 4), mark(4, 5, 6), mark(5, 4), mark(6, 1), mark(7, 8), mark(8, 9, 10), mark(9, 8), mark(10)}
	for _, c := range []struct {
		name    string
		blocks  []api.Block
		heads   []int
		headers []int
	}{
		{"one block", []api.Block{mark(0)}, nil, nil},
		{"one block without anything", []api.Block{empty()}, nil, nil},
		{"a head that is none", []api.Block{mark(0, 1), mark(1)}, to(0, 9, 1, 9), nil},
		{"no loop", []api.Block{mark(0, 1, 2), mark(1, 2), mark(2)}, nil, nil},
		{"one", one, to(1, 9), to(1)},
		{"one with the greatest Max", one, to(1, 4000), to(1)},
		{"Max 3", one, to(1, 3), to(1)},
		{"Max 2", one, to(1, 2), to(1)},
		{"Max 1", one, to(1, 1), nil},
		{"Max 0", one, to(1, 0), nil},
		{"the Max of other blocks", one, to(0, 9, 1, 1, 2, 9, 3, 9), nil},
		{"nested", nested, to(1, 9, 2, 9), to(2)},
		{"nested, the outer one with Max 0", nested, to(1, 0, 2, 2), to(2)},
		{"nested, the inner one with Max 1", nested, to(1, 9, 2, 1), nil},
		{"turned", turned, to(1, 9, 4, 9), to(1)},
		{"turned, the inner one with Max 1", turned, to(1, 1, 4, 9), nil},
		{"three", three, to(1, 9, 2, 8, 3, 7), to(3)},
		{"three, the innermost one with Max 1", three, to(1, 9, 2, 8, 3, 1), nil},
		{"two: the greater one", two, to(1, 9, 3, 9), to(3)},
		{"two: the greater one has no rounds", two, to(1, 9, 3, 1), to(1)},
		{"two without rounds", two, to(1, 1, 3, 1), nil},
		{"equal ones: the lesser header", equal, to(1, 9, 3, 9), to(1)},
		{"equal ones: the first one has no rounds", equal, to(1, 1, 3, 2), to(3)},
		{"many", many, to(1, 9, 2, 9, 4, 9, 8, 9), to(4)},
		{"many, without 4", many, to(1, 9, 2, 9, 4, 1, 8, 9), to(8)},
		{"many, without 4 and 8", many, to(1, 9, 2, 9, 4, 1, 8, 0), to(2)},
		{"many, with the outermost one alone", many, to(1, 9, 2, 1, 4, 1, 8, 0), nil},
	} {
		g := data(c.heads, c.blocks...)
		// Points keep all blocks apart.
		var all []int
		for b := range c.blocks {
			all = append(all, b)
		}
		g.Points = [][]int{all}
		standard(t, c.name, g, c.headers...)
	}
}

// TestStandardIsBehindPasses has graphs that are others behind the three passes: loops, headers and sizes are those of these.
func TestStandardIsBehindPasses(t *testing.T) {
	for _, c := range []struct {
		name    string
		g       api.Graph
		headers []int
	}{
		{"one, as merge calls it", data(to(3, 9), mark(0, 1), mark(1, 2), mark(2, 3), mark(3, 4, 5), mark(4, 3), mark(5)), to(1)},
		{"one, as dead calls it", data(to(2, 9), mark(0, 2), mark(1, 4), mark(2, 3, 4), mark(3, 2), mark(4)), to(1)},
		{"one, as all call it", data(to(4, 9), knows(0, 1, 2, 1), mark(1, 3), mark(2, 3), mark(3, 4), mark(4, 5, 6), mark(5, 4), mark(6)), to(1)},
		{"one that is not entered", data(to(1, 9), knows(0, 1, 2, 1), mark(1, 1, 2), mark(2)), nil},
		{"one that is not reached", data(to(1, 9, 2, 9), mark(0, 3), mark(1, 2, 3), mark(2, 1), mark(3)), nil},
		{"one without a second round", data(to(1, 9), mark(0, 1), knows(1, 0, 1, 2), mark(2)), nil},
		{"one that is never left", data(to(1, 9), mark(0, 1), knows(1, 1, 1, 2), mark(2)), to(1)},
		{"an inner one that is not entered", data(to(1, 9, 3, 9), mark(0, 1), mark(1, 2, 6), knows(2, 0, 3, 5), mark(3, 4, 5), mark(4, 3), mark(5, 1), mark(6)), to(1)},
		{"an inner one without a second round", data(to(1, 9, 2, 9), mark(0, 1), mark(1, 2, 4), knows(2, 0, 2, 3), mark(3, 1), mark(4)), to(1)},
		{"equal ones, and one that is less then", data(to(1, 9, 4, 9), mark(0, 1), mark(1, 2, 3), mark(2, 1), mark(3, 4), mark(4, 5, 7), mark(5, 6), mark(6, 4), mark(7)), to(1)},
	} {
		standard(t, c.name, c.g, c.headers...)
	}
}

// wide has a loop of two blocks between others: so many that stay, and so many that are not reached. Its first blocks have so many operations that stay, and the end so many that do not.
func wide(stay, gone, operations, idle int) api.Graph {
	g := api.Graph{Vars: 2, Arrays: []api.Array{{Size: 1}}, Heads: []api.Head{{Block: 1, Max: 9}}}
	g.Blocks = []api.Block{empty(1), empty(2, 3), empty(1)}
	for b := 3; b < stay-1; b++ {
		g.Blocks = append(g.Blocks, empty(b+1))
		g.Heads = append(g.Heads, api.Head{Block: b})
	}
	last := len(g.Blocks)
	g.Heads = append(g.Heads, api.Head{Block: last})
	g.Blocks = append(g.Blocks, api.Block{Ops: slices.Repeat(ops(constant(1, 1)), idle)})
	for range gone {
		g.Blocks = append(g.Blocks, empty(last))
	}
	first := slices.Repeat(mark(0).Ops, operations)
	g.Blocks[0].Ops, g.Blocks[1].Ops = first[:operations/2], first[operations/2:]
	return g
}

func TestStandardHasRoom(t *testing.T) {
	for _, c := range []struct {
		stay, gone, operations, idle int
		headers                      []int
	}{
		{4, 0, 0, 0, to(1)},
		{32, 0, 0, 0, to(1)},
		{33, 0, 0, 0, nil},
		{64, 0, 0, 0, nil},
		{32, 32, 0, 0, to(1)},
		{33, 31, 0, 0, nil},
		{4, 0, 300, 0, to(1)},
		{4, 0, 301, 0, nil},
		{4, 0, 600, 0, nil},
		{4, 0, 300, 300, to(1)},
		{4, 0, 0, 600, to(1)},
		{4, 0, 301, 299, nil},
		{32, 0, 300, 0, to(1)},
		{32, 32, 300, 300, to(1)},
		{32, 0, 301, 0, nil},
		{33, 0, 300, 0, nil},
		{33, 0, 301, 0, nil},
		{31, 0, 300, 0, to(1)},
		{32, 0, 299, 0, to(1)},
	} {
		standard(t, text(c), wide(c.stay, c.gone, c.operations, c.idle), c.headers...)
	}
	// Blocks that join leave room, operations that are folded do not.
	g := data(to(62, 9))
	for b := range 64 {
		g.Blocks = append(g.Blocks, mark(1, b+1))
	}
	g.Blocks[62].Next, g.Blocks[63].Next = to(62, 63), nil
	g.Blocks[62].Cond = 1
	standard(t, "blocks that join", g, 1)
	g = data(to(1, 9), mark(0, 1), mark(1, 1, 2), mark(2))
	g.Keep = 64
	g.Blocks[0].Ops = slices.Repeat(ops(constant(5, 1), api.Op{Kind: api.OpStore, A: 6, B: 5}), 150)
	standard(t, "constants", g)
	g.Blocks[0].Ops = slices.Repeat(ops(constant(5, 1), api.Op{Kind: api.OpStore, A: 6, B: 6}), 150)
	standard(t, "constants that nobody needs", g, 1)
}

func TestStandardErrors(t *testing.T) {
	irreducible := []api.Block{mark(0, 1, 2), mark(1, 2), mark(2, 1, 3), mark(3)}
	full := wide(64, 0, 600, 0)
	full.Heads = nil
	for name, c := range map[string]struct {
		g    api.Graph
		want api.Errno
	}{
		"nothing":                 {api.Graph{}, api.ErrForm},
		"two ends":                {data(nil, mark(0, 1, 2), mark(1), mark(2)), api.ErrForm},
		"no variable":             {data(nil, mark(0, 1), mark(64)), api.ErrForm},
		"blocks":                  {large(65, 0), api.ErrLimit},
		"operations":              {large(3, 601), api.ErrLimit},
		"no head":                 {data(nil, mark(0, 1), mark(1, 1, 2), mark(2)), api.ErrForm},
		"heads of others":         {data(to(0, 9, 2, 9), mark(0, 1), mark(1, 1, 2), mark(2)), api.ErrForm},
		"a head for one of two":   {data(to(1, 9), mark(0, 1), mark(1, 1, 2), mark(2, 3), mark(3, 3, 4), mark(4)), api.ErrForm},
		"two ways in":             {data(to(1, 9, 2, 9), irreducible...), api.ErrForm},
		"two before":              {data(to(3, 9), mark(0, 1, 2), mark(1, 3), mark(2, 3), mark(3, 3, 4), mark(4)), api.ErrForm},
		"no head, and no room":    {full, api.ErrForm},
		"no head, and much to do": {data(nil, mark(0, 1), api.Block{Ops: slices.Repeat(mark(1).Ops, 400), Cond: 1, Next: to(1, 2)}, mark(2)), api.ErrForm},
	} {
		before := text(c.g)
		if l, e := Standard(c.g); e != c.want || len(l) != 0 || text(c.g) != before {
			t.Errorf("%s: error %d, not %d, %v", name, e, c.want, l)
		}
	}
	// What has gone behind the three passes needs no head.
	for name, g := range map[string]api.Graph{
		"no second round": data(nil, mark(0, 1), knows(1, 0, 1, 2), mark(2)),
		"not entered":     data(nil, knows(0, 1, 2, 1), mark(1, 1, 2), mark(2)),
		"not reached":     data(nil, mark(0, 3), mark(1, 2, 3), mark(2, 1), mark(3)),
		"one way in":      data(to(2, 1), knows(0, 0, 1, 2), mark(1, 2), mark(2, 1, 3), mark(3)),
		"one before":      data(to(3, 1), knows(0, 0, 1, 2), mark(1, 3), mark(2, 3), mark(3, 3, 4), mark(4)),
	} {
		standard(t, name, g)
	}
}

// TestStandardIsNew changes what was returned: the next one is the same.
func TestStandardIsNew(t *testing.T) {
	l, _ := Standard(looped())
	want := text(l)
	clear(l)
	_ = append(l[:2], row("U9 U9 U9")...)
	if l, e := Standard(looped()); e != api.OK || text(l) != want || want != text(row("F D M U1 F D M")) {
		t.Errorf("error %d, %v, not %s", e, l, want)
	}
}

// P18.3: Cost

func TestCost(t *testing.T) {
	for name, c := range map[string]struct {
		g    api.Graph
		want int
	}{
		"nothing":             {api.Graph{}, 0},
		"one block":           {api.Graph{Blocks: []api.Block{{}}}, 1},
		"nothing but the end": {data(to(0, 9, 1, 9), empty(1), empty()), 2},
		"one operation":       {api.Graph{Blocks: []api.Block{mark(0)}}, 2},
		"a loop":              {looped(), 10},
		"known":               {known(), 9},
		"all":                 {roomyGraph(), 24},
		"the greatest":        {large(64, 600), 664},
		"no graph":            {large(100, 700), 800},
		"any operations":      {api.Graph{Vars: -1, Blocks: []api.Block{{Ops: ops(api.Op{Kind: -9}, api.Op{Kind: 99}), Next: to(7, 7, 7)}}}, 3},
	} {
		before := text(c.g)
		if n := Cost(c.g); n != c.want || text(c.g) != before {
			t.Errorf("%s: %d, not %d", name, n, c.want)
		}
	}
	// The passes leave less, and Unroll more.
	x, _ := ran(t, "known", known(), row("F D M"))
	y, _ := ran(t, "looped", looped(), row("U2"))
	if Cost(x) != 4 || Cost(y) != 14 {
		t.Errorf("%d and %d", Cost(x), Cost(y))
	}
}

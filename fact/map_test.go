package fact

import (
	"fmt"
	"math"
	"math/rand"
	"slices"
	"testing"
	"timebound/api"
)

// numbers is the blocks from first on.
func numbers(first, n int) []int {
	l := make([]int, n)
	for i := range l {
		l[i] = first + i
	}
	return l
}

// back is a list from its end to its beginning.
func back[T any](list []T) []T {
	l := slices.Clone(list)
	slices.Reverse(l)
	return l
}

// equal reports whether lists are the same, whether or not they are nil.
func equal(a, b [][]int) bool {
	return slices.EqualFunc(a, b, func(x, y []int) bool { return slices.Equal(x, y) })
}

// some is a map for six blocks.
func some() [][]int { return [][]int{nil, {1}, {4, 7}, {7, 7}, {}, {1}} }

// odd are lists that are no map.
func odd() map[string][][]int {
	l := map[string][][]int{
		"257 lists":          make([][]int, 257),
		"a million lists":    make([][]int, 1<<20),
		"a list of 257":      {make([]int, 257)},
		"a long list":        {make([]int, 1<<20)},
		"a last list of 257": append(some(), make([]int, 257)),
	}
	for _, n := range []int{-1, 256, 1 << 32, math.MinInt, math.MaxInt} {
		l[fmt.Sprint("block ", n)] = [][]int{{n}}
		l[fmt.Sprint("a later block ", n)] = append(some(), []int{0, 255, n})
		l[fmt.Sprint("an earlier block ", n)] = append([][]int{{n, 0}}, some()...)
	}
	return l
}

// P11.3: Map

func TestMap(t *testing.T) {
	wide := make([][]int, 256)
	wide[255], wide[0] = []int{0}, []int{255}
	each := api.Fact{Terms: row(0, 64, 2), Most: 9}
	for name, c := range map[string]struct {
		f    api.Fact
		to   [][]int
		want api.Fact
	}{
		"the example":             {of(0, 2, 1, 5, -3), some(), of(0, 1, -3, 4, 1, 7, 1)},
		"a block twice":           {of(2, 2, 1, 3, 2), some(), of(2, 4, 1, 7, 5)},
		"two blocks in one":       {of(2, 1, 3, 5, 4), some(), of(2, 1, 7)},
		"two blocks in none":      {of(2, 1, 3, 5, -3), some(), of(2)},
		"gone":                    {of(2, 0, 1, 4, 2), some(), of(2)},
		"gone and left":           {of(-3, 0, 1, 1, 2, 4, 2), some(), of(-3, 1, 2)},
		"no terms":                {of(-7), some(), of(-7)},
		"no terms, no map":        {of(-7), nil, of(-7)},
		"the last list":           {of(1, 5, 1), some(), of(1, 1, 1)},
		"the first and last one":  {of(1<<20, 0, -1<<20, 255, 1<<20), wide, of(1<<20, 0, 1<<20, 255, -1<<20)},
		"the greatest sum":        {of(1, 0, 1<<12), [][]int{make([]int, 256)}, of(1, 0, 1<<20)},
		"the greatest sum of all": {of(1, 0, 1<<12, 1, -1<<20), [][]int{make([]int, 256), {0, 2}}, of(1, 2, -1<<20)},
		"1024 terms":              {of(1, 0, 1, 1, -1, 2, 2, 3, 3), slices.Repeat([][]int{slices.Repeat(numbers(100, 64), 4)}, 4), api.Fact{Terms: row(100, 64, 20), Most: 1}},
		"64 left":                 {of(1, 3, -6), [][]int{{0}, {1}, {2}, numbers(192, 64)}, api.Fact{Terms: row(192, 64, -6), Most: 1}},
		"64 left of 65":           {of(1, 0, 1, 1, -1), [][]int{numbers(0, 65), {64}}, api.Fact{Terms: row(0, 64, 1), Most: 1}},
		"64 terms":                {each, [][]int{63: {}}, of(9)},
	} {
		if f, e := Map(c.f, c.to); e != api.OK || !same(f, c.want) {
			t.Errorf("%s: error %d, %v, not %v", name, e, f, c.want)
		}
	}
	for name, f := range right() {
		self := make([][]int, 256)
		for i := range self {
			self[i] = []int{i}
		}
		if g, e := Map(f, self); e != api.OK || !same(f, g) {
			t.Errorf("%s, to itself: error %d, %v, not %v", name, e, g, f)
		}
	}
}

// TestErrorsOfMap has errors behind which others come.
func TestErrorsOfMap(t *testing.T) {
	maps := func(name string, f api.Fact, to [][]int, want api.Errno) {
		t.Helper()
		if g, e := Map(f, to); e != want || !nothing(g) {
			t.Errorf("%s: error %d, not %d, %v", name, e, want, g)
		}
	}
	for name, bad := range wrong() {
		maps(name, bad.Fact, make([][]int, 256), bad.want)
		maps(name, bad.Fact, nil, bad.want)
		maps(name, bad.Fact, [][]int{{-1}}, bad.want)
	}
	for name, to := range odd() {
		maps(name, of(0), to, api.ErrForm)
		maps(name, of(0, 0, 1), to, api.ErrForm)
		maps(name, of(0, 255, 1), to, api.ErrForm)
	}
	maps("no list", of(0, 6, 1), some(), api.ErrBlock)
	maps("no list at the end", of(0, 0, 1, 1, 1, 6, 1), some(), api.ErrBlock)
	maps("no lists", of(0, 0, 1), nil, api.ErrBlock)
	maps("no list of the last block", of(0, 255, 1), make([][]int, 255), api.ErrBlock)
	full := slices.Repeat([][]int{make([]int, 256)}, 5)
	maps("no list, and a sum", of(0, 0, 1<<20, 5, 1), full, api.ErrBlock)
	maps("no list, and 1280 terms", of(0, 0, 1, 1, 1, 2, 1, 3, 1, 4, 1, 5, 1), full, api.ErrBlock)
	maps("1025 terms", of(0, 0, 1, 1, 1, 2, 1, 3, 1, 4, 1), append(full[:4:4], []int{7}), api.ErrLimit)
	maps("1025 terms, and a sum", of(0, 0, 1<<20, 1, 1, 2, 1, 3, 1, 4, 1), append(full[:4:4], []int{7}), api.ErrLimit)
	maps("1280 terms that meet", of(0, 0, 1, 1, -1, 2, 1, 3, -1, 4, 1), full, api.ErrLimit)
	maps("16384 terms", api.Fact{Terms: row(0, 64, 1)}, slices.Repeat(full, 13), api.ErrLimit)
	maps("65 left", of(0, 0, 1), [][]int{numbers(0, 65)}, api.ErrLimit)
	maps("65 left, and a sum", of(0, 0, 1<<20), [][]int{append(numbers(0, 65), 0)}, api.ErrLimit)
	maps("a sum", of(0, 0, 1<<20), [][]int{{3, 3}}, api.ErrRange)
	maps("a sum of two", of(0, 0, 1<<20, 1, 1), [][]int{{3}, {3}}, api.ErrRange)
	maps("a sum below", of(0, 0, -1<<12-1), [][]int{make([]int, 256)}, api.ErrRange)
}

// P11.5: Points

func TestPoints(t *testing.T) {
	all := make([][]int, 256)
	for i := range all {
		all[i] = []int{255 - i}
	}
	for name, c := range map[string]struct{ points, to, want [][]int }{
		"one behind the other":   {[][]int{{2, 1}, nil, {3}}, some(), [][]int{{4, 7, 1}, nil, {7, 7}}},
		"a block twice":          {[][]int{{2, 2}, {5, 1}}, some(), [][]int{{4, 7, 4, 7}, {1, 1}}},
		"gone":                   {[][]int{{0, 4}, {4, 1, 0}, {4}}, some(), [][]int{nil, {1}, nil}},
		"no points":              {nil, some(), nil},
		"no map":                 {[][]int{nil, {}, nil}, nil, [][]int{nil, nil, nil}},
		"neither":                {nil, nil, nil},
		"the first and last one": {[][]int{{255, 0}, {0}, {255}}, all, [][]int{{0, 255}, {255}, {0}}},
		"256 points":             {all, all, back(all)},
		"256 blocks":             {[][]int{numbers(0, 256), {}, numbers(0, 256)}, all, [][]int{back(numbers(0, 256)), nil, back(numbers(0, 256))}},
		"256 blocks of a list":   {[][]int{{0}, {0, 1}, {1, 0}}, [][]int{numbers(0, 256), nil}, [][]int{numbers(0, 256), numbers(0, 256), numbers(0, 256)}},
		"256 blocks of two":      {[][]int{{1, 0}}, [][]int{numbers(0, 128), numbers(128, 128)}, [][]int{append(numbers(128, 128), numbers(0, 128)...)}},
		"256 times":              {[][]int{make([]int, 256)}, [][]int{{9}}, [][]int{slices.Repeat([]int{9}, 256)}},
		"256 lists that end":     {[][]int{append(make([]int, 255), 1)}, [][]int{{}, numbers(0, 256)}, [][]int{numbers(0, 256)}},
	} {
		if l, e := Points(c.points, c.to); e != api.OK || !equal(l, c.want) {
			t.Errorf("%s: error %d, %v, not %v", name, e, l, c.want)
		}
	}
}

// TestErrorsOfPoints has errors behind which others come.
func TestErrorsOfPoints(t *testing.T) {
	points := func(name string, points, to [][]int, want api.Errno) {
		t.Helper()
		if l, e := Points(points, to); e != want || len(l) != 0 {
			t.Errorf("%s: error %d, not %d, %v", name, e, want, l)
		}
	}
	for name, bad := range odd() {
		points(name, bad, make([][]int, 256), api.ErrForm)
		points(name, bad, nil, api.ErrForm)
		points(name, nil, bad, api.ErrForm)
		points(name, [][]int{{255}}, bad, api.ErrForm)
		points(name, bad, bad, api.ErrForm)
	}
	points("no list", [][]int{{6}}, some(), api.ErrBlock)
	points("no list at the end", [][]int{{0, 1}, {2, 5, 6}}, some(), api.ErrBlock)
	points("no list at the beginning", [][]int{{6, 5}, {2}}, some(), api.ErrBlock)
	points("no lists", [][]int{nil, {0}}, nil, api.ErrBlock)
	points("no list of the last block", [][]int{{255}}, make([][]int, 255), api.ErrBlock)
	long := [][]int{numbers(0, 256), {3}, make([]int, 200)}
	points("too long, and then no list", [][]int{{0, 0}, {3}}, long, api.ErrBlock)
	points("too long, and no list in it", [][]int{{0, 1, 3}}, long, api.ErrBlock)
	points("257 blocks", [][]int{{0, 1}}, long, api.ErrLimit)
	points("257 blocks the other way", [][]int{{1, 0}}, long, api.ErrLimit)
	points("257 blocks at the end", [][]int{{0}, {1}, {1, 2}, nil, {0, 1}}, long, api.ErrLimit)
	points("400 blocks", [][]int{{2, 2}}, long, api.ErrLimit)
	points("65536 blocks", [][]int{make([]int, 256)}, long, api.ErrLimit)
	points("65536 blocks 256 times", slices.Repeat([][]int{make([]int, 256)}, 256), slices.Repeat(long, 85), api.ErrLimit)
}

// between is a random map to few blocks.
func between(r *rand.Rand, blocks, to int) [][]int {
	l := make([][]int, blocks)
	for i := range l {
		for range r.Intn(4) {
			l[i] = append(l[i], r.Intn(to))
		}
	}
	return l
}

// added adds up the counts of the blocks of each list.
func added(to [][]int, counts []int) []int {
	l := make([]int, len(to))
	for i, list := range to {
		for _, b := range list {
			if b < len(counts) {
				l[i] += counts[b]
			}
		}
	}
	return l
}

// TestMapsOfFacts looks at counts of new blocks, and at those of the old ones that they add up to: they obey the same facts. A map behind another one is the map of the points of both.
func TestMapsOfFacts(t *testing.T) {
	r := rand.New(rand.NewSource(3))
	held := 0
	for range 20000 {
		f, first, second := little(r, 6), between(r, 6, 5), between(r, 5, 7)
		g, e := Map(f, first)
		h, late := Map(g, second)
		both, none := Points(first, second)
		x, last := Map(f, both)
		if e != api.OK || late != api.OK || none != api.OK || last != api.OK || !same(h, x) {
			t.Fatalf("%v, %v, %v: errors %d, %d, %d, %d, %v, %v", f, first, second, e, late, none, last, h, x)
		}
		news := make([]int, r.Intn(9))
		for i := range news {
			news[i] = r.Intn(4)
		}
		olds := added(second, news)
		oldest := added(first, olds)
		if !slices.Equal(oldest, added(both, news)) {
			t.Fatalf("%v, %v: %v; %v", first, second, both, news)
		}
		l, _ := Sum(f, oldest)
		m, _ := Sum(g, olds)
		n, _ := Sum(h, news)
		if l != m || m != n || Holds(f, oldest) != Holds(g, olds) || Holds(f, oldest) != Holds(h, news) {
			t.Fatalf("%v, %v, %v: %v, %v; %v: %d, %d, %d", f, first, second, g, h, news, l, m, n)
		}
		if Holds(f, oldest) {
			held++
		}
	}
	if held < 5000 || held > 15000 {
		t.Errorf("%d facts hold", held)
	}
}

// TestMapsStay compares arguments with what they were, also behind changes of the results, of which no part shares memory with another one.
func TestMapsStay(t *testing.T) {
	f, to, points := of(5, 1, 2, 3, 1), some(), [][]int{{2}, {1, 0}, {2}, {3, 2}, nil}
	before := fmt.Sprint(f, to, points)
	g, e := Map(f, to)
	if e != api.OK {
		t.Errorf("error %d", e)
	}
	for i := range g.Terms {
		g.Terms[i] = api.Term{Of: 98, Coef: 98}
	}
	l, e := Points(points, to)
	want := [][]int{{4, 7}, {1}, {4, 7}, {7, 7, 4, 7}, nil}
	if e != api.OK || !equal(l, want) {
		t.Errorf("error %d, %v", e, l)
	}
	for i := range l {
		for j := range l[i] {
			l[i][j] = 98
		}
		_ = append(l[i], 97, 97, 97, 97)
		if !equal(l[i+1:], want[i+1:]) {
			t.Errorf("behind a change of list %d: %v", i, l)
		}
	}
	if after := fmt.Sprint(f, to, points); after != before {
		t.Errorf("%s, not %s", after, before)
	}
}

package fact

import (
	"fmt"
	"math"
	"math/rand"
	"slices"
	"testing"
	"timebound/api"
)

// of is a fact: pairs of blocks and coefficients, as they are.
func of(most int, pairs ...int) api.Fact {
	f := api.Fact{Most: most}
	for i := 0; i < len(pairs); i += 2 {
		f.Terms = append(f.Terms, api.Term{Of: pairs[i], Coef: pairs[i+1]})
	}
	return f
}

// row is n terms for the blocks from first on.
func row(first, n, coef int) []api.Term {
	var l []api.Term
	for i := range n {
		l = append(l, api.Term{Of: first + i, Coef: coef})
	}
	return l
}

// same reports whether facts are the same, whether or not their terms are nil.
func same(f, g api.Fact) bool { return f.Most == g.Most && slices.Equal(f.Terms, g.Terms) }

// nothing reports whether a fact is the zero value.
func nothing(f api.Fact) bool { return f.Most == 0 && len(f.Terms) == 0 }

// right are facts that are valid.
func right() map[string]api.Fact {
	return map[string]api.Fact{
		"no terms":       of(0),
		"least":          of(-1<<20, 0, -1<<20),
		"greatest":       of(1<<20, 255, 1<<20),
		"both ends":      of(7, 0, 1<<20, 255, -1<<20),
		"64 terms":       {Terms: row(192, 64, -1), Most: 5},
		"next ones":      of(1, 3, 1, 4, -1, 5, 1),
		"ones and minus": of(-1, 0, 1, 1, -1),
	}
}

// broken is a fact that is not valid, with its error.
type broken struct {
	api.Fact
	want api.Errno
}

// wrong are facts that are not valid.
func wrong() map[string]broken {
	l := map[string]broken{
		"65 terms":                    {api.Fact{Terms: row(0, 65, 1)}, api.ErrLimit},
		"300 terms":                   {api.Fact{Terms: row(0, 300, 1)}, api.ErrLimit},
		"65 terms, all of a block":    {api.Fact{Terms: make([]api.Term, 65)}, api.ErrLimit},
		"65 terms, and most":          {api.Fact{Terms: row(0, 65, 1), Most: 1<<20 + 1}, api.ErrLimit},
		"a block twice":               {of(0, 3, 1, 3, 1), api.ErrForm},
		"a block twice, opposite":     {of(0, 3, 1, 3, -1), api.ErrForm},
		"a block twice, later":        {of(0, 1, 1, 3, 1, 3, 2), api.ErrForm},
		"descending":                  {of(0, 4, 1, 3, 1), api.ErrForm},
		"descending at the end":       {of(0, 1, 1, 4, 1, 3, 1), api.ErrForm},
		"descending at the beginning": {of(0, 255, 1, 3, 1, 4, 1), api.ErrForm},
		"0 at the end":                {of(0, 2, 1, 3, 0), api.ErrForm},
		"0 at the beginning":          {of(0, 2, 0, 3, 1), api.ErrForm},
	}
	for _, n := range []int{-1, -2, 256, 257, math.MinInt, math.MaxInt} {
		l[fmt.Sprint("block ", n)] = broken{of(0, n, 1), api.ErrForm}
		l[fmt.Sprint("a second block ", n)] = broken{of(0, 5, 1, n, 1), api.ErrForm}
	}
	for _, n := range []int{1<<20 + 1, -1<<20 - 1, 1 << 32, math.MinInt, math.MaxInt} {
		l[fmt.Sprint("coefficient ", n)] = broken{of(0, 5, n), api.ErrForm}
		l[fmt.Sprint("a second coefficient ", n)] = broken{of(0, 4, 1, 5, n), api.ErrForm}
		l[fmt.Sprint("most ", n)] = broken{of(n, 4, 1), api.ErrForm}
		l[fmt.Sprint("most alone ", n)] = broken{of(n), api.ErrForm}
	}
	return l
}

// P11.1: Check and Of

func TestCheck(t *testing.T) {
	for name, f := range right() {
		if e := Check(f); e != api.OK {
			t.Errorf("%s: error %d", name, e)
		}
	}
	for name, f := range wrong() {
		if e := Check(f.Fact); e != f.want {
			t.Errorf("%s: error %d, not %d", name, e, f.want)
		}
	}
}

// TestOfWhatIsRight has terms of valid facts, which are left as they are, in any order.
func TestOfWhatIsRight(t *testing.T) {
	for name, f := range right() {
		for _, terms := range [][]api.Term{f.Terms, back(f.Terms)} {
			if g, e := Of(terms, f.Most); e != api.OK || !same(f, g) {
				t.Errorf("%s: error %d, %v, not %v", name, e, g, f)
			}
		}
	}
}

func TestOf(t *testing.T) {
	twice := slices.Concat(row(0, 64, 1), row(0, 64, 1))
	for name, c := range map[string]struct {
		terms []api.Term
		most  int
		want  api.Fact
	}{
		"sums":                        {of(0, 7, 2, 3, 1, 7, -5, 255, 9, 0, 4, 7, 1).Terms, -3, of(-3, 0, 4, 3, 1, 7, -2, 255, 9)},
		"0":                           {of(0, 7, 0).Terms, 1, of(1)},
		"sums that are 0":             {of(0, 7, 2, 3, 1, 7, -2, 4, 5).Terms, 1, of(1, 3, 1, 4, 5)},
		"the first sum is 0":          {of(0, 1, 2, 3, 1, 1, -2).Terms, 1, of(1, 3, 1)},
		"the last sum is 0":           {of(0, 7, 2, 3, 1, 7, -2).Terms, 1, of(1, 3, 1)},
		"all sums are 0":              {of(0, 7, 2, 3, 1, 7, -2, 3, -1).Terms, 1, of(1)},
		"0 on the way":                {of(0, 7, 2, 7, -2, 7, 6).Terms, 1, of(1, 7, 6)},
		"too great on the way":        {of(0, 7, 1<<20, 7, 1<<20, 7, -1<<20).Terms, 1, of(1, 7, 1<<20)},
		"too small on the way":        {of(0, 7, -1<<20, 7, -1<<20, 7, 1<<20).Terms, 1, of(1, 7, -1<<20)},
		"the greatest sum":            {of(0, 7, 1<<20-1, 7, 1).Terms, 1, of(1, 7, 1<<20)},
		"the least sum":               {of(0, 7, 1-1<<20, 7, -1).Terms, 1, of(1, 7, -1<<20)},
		"1024 terms":                  {make([]api.Term, 1024), 1 << 20, of(1 << 20)},
		"1024 terms of a block":       {slices.Repeat(row(9, 1, 1<<10), 1024), 0, of(0, 9, 1<<20)},
		"128 terms":                   {twice, 5, api.Fact{Terms: row(0, 64, 2), Most: 5}},
		"65 terms, one of them 0":     {append(row(0, 64, 3), api.Term{Of: 200}), 5, api.Fact{Terms: row(0, 64, 3), Most: 5}},
		"65 blocks, one of them left": {append(append(row(0, 65, 3), api.Term{Of: 64, Coef: -3}), row(0, 63, -3)...), 5, of(5, 63, 3)},
	} {
		if f, e := Of(c.terms, c.most); e != api.OK || !same(f, c.want) {
			t.Errorf("%s: error %d, %v, not %v", name, e, f, c.want)
		}
	}
}

// TestErrorsOfOf has an error each, and those that come behind it.
func TestErrorsOfOf(t *testing.T) {
	few := row(0, 3, 1)
	for name, c := range map[string]struct {
		terms []api.Term
		most  int
		want  api.Errno
	}{
		"1025 terms":                       {make([]api.Term, 1025), 0, api.ErrLimit},
		"1025 terms, most":                 {make([]api.Term, 1025), 1<<20 + 1, api.ErrLimit},
		"1025 terms, a block":              {append(row(-1, 1, 1), make([]api.Term, 1024)...), 0, api.ErrLimit},
		"a million terms":                  {make([]api.Term, 1<<20), 0, api.ErrLimit},
		"65 left":                          {row(0, 65, 1), 0, api.ErrLimit},
		"256 left":                         {row(0, 256, 1), 0, api.ErrLimit},
		"65 left of 130":                   {slices.Repeat(row(0, 65, 1), 2), 0, api.ErrLimit},
		"65 left, a block":                 {append(row(0, 65, 1), api.Term{Of: 256}), 0, api.ErrRange},
		"65 left, a coefficient":           {append(row(0, 65, 1), api.Term{Coef: 1<<20 + 1}), 0, api.ErrRange},
		"65 left, most":                    {row(0, 65, 1), 1<<20 + 1, api.ErrRange},
		"65 left, a sum":                   {append(row(0, 65, 1), api.Term{Coef: 1 << 20}), 0, api.ErrLimit},
		"a sum that is too great":          {of(0, 7, 1<<20, 7, 1).Terms, 0, api.ErrRange},
		"a sum that is too small":          {of(0, 7, -1, 7, -1<<20).Terms, 0, api.ErrRange},
		"the first sum":                    {of(0, 0, 1<<20, 0, 1<<20, 1, 1).Terms, 0, api.ErrRange},
		"the last sum":                     {of(0, 3, 1, 255, 1<<20, 255, 1<<20).Terms, 0, api.ErrRange},
		"the greatest sum":                 {slices.Repeat(row(9, 1, 1<<20), 1024), 0, api.ErrRange},
		"the least sum":                    {slices.Repeat(row(9, 1, -1<<20), 1024), 0, api.ErrRange},
		"64 left, a sum":                   {append(row(0, 64, 1), api.Term{Coef: 1 << 20}), 0, api.ErrRange},
		"a block that is left out":         {append(few, api.Term{Of: 256}), 0, api.ErrRange},
		"a coefficient that is left out":   {of(0, 1, 1<<20+1, 1, -1).Terms, 0, api.ErrRange},
		"coefficients that are opposite":   {of(0, 1, 1<<20+1, 1, -1<<20-1).Terms, 0, api.ErrRange},
		"blocks whose coefficients are 0":  {of(0, -1, 1, -1, -1).Terms, 0, api.ErrRange},
		"coefficients that overflow":       {of(0, 1, math.MaxInt, 1, math.MaxInt, 1, 2).Terms, 0, api.ErrRange},
		"coefficients that overflow below": {of(0, 1, math.MinInt, 1, math.MinInt).Terms, 0, api.ErrRange},
	} {
		if f, e := Of(c.terms, c.most); e != c.want || !nothing(f) {
			t.Errorf("%s: error %d, not %d, %v", name, e, c.want, f)
		}
	}
	for _, n := range []int{-1, 256, 1 << 32, math.MinInt, math.MaxInt} {
		for at := range few {
			l := slices.Clone(few)
			l[at].Of = n
			if f, e := Of(l, 0); e != api.ErrRange || !nothing(f) {
				t.Errorf("block %d at %d: error %d, %v", n, at, e, f)
			}
		}
	}
	for _, n := range []int{1<<20 + 1, -1<<20 - 1, 1 << 32, math.MinInt, math.MaxInt} {
		for at := range few {
			l := slices.Clone(few)
			l[at].Coef = n
			if f, e := Of(l, 0); e != api.ErrRange || !nothing(f) {
				t.Errorf("coefficient %d at %d: error %d, %v", n, at, e, f)
			}
		}
		for _, l := range [][]api.Term{nil, few} {
			if f, e := Of(l, n); e != api.ErrRange || !nothing(f) {
				t.Errorf("most %d: error %d, %v", n, e, f)
			}
		}
	}
}

// plain adds up terms in an array, in which the blocks are in order.
func plain(terms []api.Term, most int) (api.Fact, api.Errno) {
	if len(terms) > 1024 {
		return api.Fact{}, api.ErrLimit
	}
	far := most < -1<<20 || most > 1<<20
	var sums [256]int
	for _, t := range terms {
		if t.Of < 0 || t.Of > 255 || t.Coef < -1<<20 || t.Coef > 1<<20 {
			return api.Fact{}, api.ErrRange
		}
		sums[t.Of] += t.Coef
	}
	if far {
		return api.Fact{}, api.ErrRange
	}
	f := api.Fact{Most: most}
	for b, sum := range sums {
		if sum != 0 {
			f.Terms = append(f.Terms, api.Term{Of: b, Coef: sum})
		}
		far = far || sum < -1<<20 || sum > 1<<20
	}
	if len(f.Terms) > 64 {
		return api.Fact{}, api.ErrLimit
	}
	if far {
		return api.Fact{}, api.ErrRange
	}
	return f, api.OK
}

// number is a small number or, rarely, one at the end of a range.
func number(r *rand.Rand, far int) int {
	if r.Intn(20) > 0 {
		return r.Intn(9) - 4
	}
	return []int{far, -far, far - 1, 1 - far, far / 2, -far / 2}[r.Intn(6)]
}

// TestOfAgainstPlainSums has random terms of few or of all blocks.
func TestOfAgainstPlainSums(t *testing.T) {
	r := rand.New(rand.NewSource(11))
	found := map[api.Errno]int{}
	for range 20000 {
		blocks, n := 1+r.Intn(256), r.Intn(150)
		if r.Intn(20) == 0 {
			n = 1020 + r.Intn(8)
		}
		far := 1<<20 + r.Intn(20)/19
		var l []api.Term
		for range n {
			l = append(l, api.Term{Of: r.Intn(blocks), Coef: number(r, far)})
		}
		most := number(r, far)
		f, e := Of(l, most)
		want, wrong := plain(l, most)
		if e != wrong || !same(f, want) || e == api.OK && Check(f) != api.OK {
			t.Fatalf("%v, %d: error %d, %v, not %d, %v", l, most, e, f, wrong, want)
		}
		found[e]++
	}
	if found[api.OK] < 1000 || found[api.ErrLimit] < 1000 || found[api.ErrRange] < 1000 {
		t.Errorf("errors: %v", found)
	}
}

// P11.2: Sum and Holds

func TestSum(t *testing.T) {
	f := of(3, 0, 2, 2, -3, 9, 5)
	most := api.Fact{Terms: row(192, 64, 1<<20), Most: 1 << 20}
	least := api.Fact{Terms: row(192, 64, -1<<20), Most: -1 << 20}
	for name, c := range map[string]struct {
		f      api.Fact
		counts []int
		sum    int
		holds  bool
	}{
		"no counts":           {f, nil, 0, true},
		"some":                {f, []int{4, 100, 1}, 5, false},
		"as much as it can":   {f, []int{3, 0, 1}, 3, true},
		"one more":            {f, []int{2, 0, 0, 0, 0, 0, 0, 0, 0, 0}, 4, false},
		"a negative sum":      {f, []int{0, 0, 9, 7, 0, 7, 0, 7}, -27, true},
		"the last count":      {f, []int{0, 1, 0, 1, 1, 1, 1, 1, 1, 1, 1}, 5, false},
		"of no other blocks":  {f, []int{0, 9, 0, 9, 9, 9, 9, 9, 9, 0, 9}, 0, true},
		"all counts":          {f, slices.Repeat([]int{1}, 256), 4, false},
		"no terms":            {of(0), []int{7}, 0, true},
		"no terms, below":     {of(-1), []int{7}, 0, false},
		"no terms, above":     {of(1), []int{7}, 0, true},
		"below, none":         {of(-1, 3, -1), nil, 0, false},
		"below":               {of(-1, 3, -1), []int{0, 0, 0, 1}, -1, true},
		"the greatest count":  {of(1<<20, 1, 1), []int{0, 1 << 31}, 1 << 31, false},
		"the greatest counts": {most, slices.Repeat([]int{1 << 31}, 256), 1 << 57, false},
		"the least sum":       {least, slices.Repeat([]int{1 << 31}, 256), -1 << 57, true},
		"opposite":            {of(0, 0, 1<<20, 1, -1<<20), []int{1 << 31, 1 << 31}, 0, true},
		"one apart":           {of(-1<<20, 0, 1<<20, 1, -1<<20), []int{1<<31 - 1, 1 << 31}, -1 << 20, true},
		"apart the other way": {of(-1<<20, 0, 1<<20, 1, -1<<20), []int{1 << 31, 1<<31 - 1}, 1 << 20, false},
	} {
		if n, e := Sum(c.f, c.counts); e != api.OK || n != c.sum || Holds(c.f, c.counts) != c.holds {
			t.Errorf("%s: error %d, %d, not %d, holds: %v", name, e, n, c.sum, !c.holds)
		}
	}
}

func TestErrorsOfSum(t *testing.T) {
	for name, counts := range map[string][]int{
		"257 counts":       make([]int, 257),
		"a million counts": make([]int, 1<<20),
		"below 0":          {-1},
		"too great":        {1<<31 + 1},
		"far below":        {0, 0, math.MinInt},
		"far above":        {0, math.MaxInt, 0},
		"one not asked":    {0, 0, 0, 0, -1},
		"the last one":     append(make([]int, 255), 1<<31+1),
	} {
		for _, f := range []api.Fact{of(1<<20, 0, 1, 1, 1, 2, 1), of(1 << 20), of(1<<20, 0, -1)} {
			if n, e := Sum(f, counts); e != api.ErrRange || n != 0 || Holds(f, counts) {
				t.Errorf("%s: error %d, %d, holds: %v", name, e, n, Holds(f, counts))
			}
		}
		for what, f := range wrong() {
			if n, e := Sum(f.Fact, counts); e != f.want || n != 0 || Holds(f.Fact, counts) {
				t.Errorf("%s, %s: error %d, not %d, %d", name, what, e, f.want, n)
			}
		}
	}
	for what, f := range wrong() {
		if n, e := Sum(f.Fact, nil); e != f.want || n != 0 || Holds(f.Fact, nil) {
			t.Errorf("%s: error %d, not %d, %d", what, e, f.want, n)
		}
	}
}

// P11.4: Add

func TestAdd(t *testing.T) {
	f, g := of(5, 1, 2, 3, 1), of(-2, 1, -3, 4, 7)
	low, high := api.Fact{Terms: row(0, 64, 1), Most: 1}, api.Fact{Terms: row(64, 64, 1), Most: 1}
	for name, c := range map[string]struct {
		f, g api.Fact
		a, b int
		want api.Fact
	}{
		"once each":             {f, g, 1, 1, of(3, 1, -1, 3, 1, 4, 7)},
		"more often":            {f, g, 5, 2, of(21, 1, 4, 3, 5, 4, 14)},
		"a term is gone":        {f, g, 3, 2, of(11, 3, 3, 4, 14)},
		"turned":                {g, f, 2, 3, of(11, 3, 3, 4, 14)},
		"the first one not":     {f, g, 0, 1, g},
		"the second one not":    {f, g, 1, 0, f},
		"none":                  {f, g, 0, 0, of(0)},
		"itself":                {f, f, 1, 2, of(15, 1, 6, 3, 3)},
		"the opposite":          {f, of(-4, 1, -2, 3, -1), 7, 7, of(7)},
		"no terms":              {of(4), of(-1), 3, 5, of(7)},
		"the greatest factor":   {of(-1, 0, 1), of(0, 9, -1), 1 << 20, 1 << 20, of(-1<<20, 0, 1<<20, 9, -1<<20)},
		"the greatest most":     {of(1<<19, 0, 1<<19), of(0, 9, -1<<19), 2, 2, of(1<<20, 0, 1<<20, 9, -1<<20)},
		"most that meets":       {of(1 << 20), of(-1 << 20), 1 << 20, 1 << 20, of(0)},
		"most that nearly does": {of(1 << 20), of(-1 << 20), 1 << 20, 1<<20 - 1, of(1 << 20)},
		"most of one only":      {of(1 << 20), of(-1 << 20), 0, 1, of(-1 << 20)},
		"64 left":               {low, high, 0, 3, api.Fact{Terms: row(64, 64, 3), Most: 3}},
		"64 left, all of both":  {low, low, 1, 1, api.Fact{Terms: row(0, 64, 2), Most: 2}},
	} {
		if x, e := Add(c.f, c.g, c.a, c.b); e != api.OK || !same(x, c.want) {
			t.Errorf("%s: error %d, %v, not %v", name, e, x, c.want)
		}
	}
}

// TestErrorsOfAdd has errors behind which others come.
func TestErrorsOfAdd(t *testing.T) {
	f, g := of(5, 1, 2, 3, 1), of(-2, 1, -3, 4, 7)
	adds := func(name string, f, g api.Fact, a, b int, want api.Errno) {
		t.Helper()
		if x, e := Add(f, g, a, b); e != want || !nothing(x) {
			t.Errorf("%s: error %d, not %d, %v", name, e, want, x)
		}
	}
	for name, bad := range wrong() {
		adds(name, bad.Fact, g, 1, 1, bad.want)
		adds(name, bad.Fact, g, 0, 0, bad.want)
		adds(name, f, bad.Fact, 1, 1, bad.want)
		adds(name, f, bad.Fact, 0, 0, bad.want)
		adds(name, bad.Fact, g, -1, 1, bad.want)
		adds(name, f, bad.Fact, 1, 1<<20+1, bad.want)
	}
	long, twice := api.Fact{Terms: row(0, 65, 1)}, of(0, 3, 1, 3, 1)
	adds("the first one is too long", long, twice, -1, -1, api.ErrLimit)
	adds("the second one is too long", twice, long, -1, -1, api.ErrForm)
	low, high := api.Fact{Terms: row(0, 64, 1), Most: 1}, of(1, 64, 1)
	for _, n := range []int{-1, -2, 1<<20 + 1, 1 << 44, math.MinInt, math.MaxInt} {
		for name, other := range map[string]api.Fact{"65 left": high, "no terms": of(0), "itself": low} {
			for _, pair := range [][2]api.Fact{{low, other}, {other, low}} {
				adds(fmt.Sprint(name, ", ", n, " times"), pair[0], pair[1], n, 1, api.ErrRange)
				adds(fmt.Sprint(name, ", ", n, " times behind"), pair[0], pair[1], 1, n, api.ErrRange)
			}
		}
	}
	adds("65 left", low, high, 1, 1, api.ErrLimit)
	adds("65 left, a product", low, of(1, 64, 2), 1, 1<<20, api.ErrRange)
	adds("a product", f, g, 1<<19+1, 0, api.ErrRange)
	adds("a product behind", f, g, 0, 1<<20, api.ErrRange)
	adds("products that meet", of(0, 3, 1<<20), of(0, 3, -1<<20), 2, 2, api.ErrRange)
	adds("the greatest products", of(1<<20, 3, 1<<20), of(1<<20, 3, 1<<20), 1<<20, 1<<20, api.ErrRange)
	adds("most", of(1<<20), of(1), 1, 1, api.ErrRange)
	adds("most below", of(-1), of(-1<<20), 1, 1, api.ErrRange)
	adds("the greatest most", of(1<<20), of(1<<20), 1<<20, 1<<20, api.ErrRange)
	adds("65 left, most", api.Fact{Terms: row(0, 64, 1), Most: 1 << 20}, high, 1, 1, api.ErrRange)
	adds("a sum", of(0, 3, 1<<20), of(0, 3, 1), 1, 1, api.ErrRange)
	adds("a sum below", of(0, 3, -1), of(0, 3, -1<<19), 1, 2, api.ErrRange)
}

// counted is random counts of few blocks.
func counted(r *rand.Rand, blocks int) []int {
	counts := make([]int, blocks)
	for i := range counts {
		counts[i] = r.Intn(5)
		if r.Intn(20) == 0 {
			counts[i] = 1<<31 - r.Intn(3)
		}
	}
	return counts
}

// little is a random fact about few blocks.
func little(r *rand.Rand, blocks int) api.Fact {
	f := api.Fact{Most: r.Intn(15) - 7}
	for b := range blocks {
		if coef := r.Intn(9) - 4; coef != 0 && r.Intn(2) == 0 {
			f.Terms = append(f.Terms, api.Term{Of: b, Coef: coef})
		}
	}
	return f
}

// TestSumsOfFacts looks at counts of random facts: the sum of two facts has the sum of their sums, and whatever obeys both obeys it.
func TestSumsOfFacts(t *testing.T) {
	r := rand.New(rand.NewSource(4))
	both, neither := 0, 0
	for range 20000 {
		f, g, a, b, counts := little(r, 6), little(r, 6), r.Intn(5), r.Intn(5), counted(r, r.Intn(8))
		x, e := Add(f, g, a, b)
		m, _ := Sum(f, counts)
		n, _ := Sum(g, counts)
		sum, late := Sum(x, counts)
		if e != api.OK || late != api.OK || sum != a*m+b*n || x.Most != a*f.Most+b*g.Most {
			t.Fatalf("%v, %v, %d, %d: errors %d, %d, %v; %v: %d", f, g, a, b, e, late, x, counts, sum)
		}
		if Holds(f, counts) != (m <= f.Most) || Holds(f, counts) && Holds(g, counts) && !Holds(x, counts) {
			t.Fatalf("%v, %v, %d, %d: %v; %v", f, g, a, b, x, counts)
		}
		if Holds(f, counts) && Holds(g, counts) {
			both++
		} else if !Holds(x, counts) {
			neither++
		}
	}
	if both < 1000 || neither < 1000 {
		t.Errorf("both hold: %d; the sum does not: %d", both, neither)
	}
}

// TestArgumentsStay compares arguments with what they were, also behind changes of the results.
func TestArgumentsStay(t *testing.T) {
	f, g := of(5, 1, 2, 3, 1, 7, -4), of(-2, 1, -3, 4, 7)
	terms, counts := of(0, 7, 2, 3, 0, 7, -2, 1, 5, 0, 4).Terms, []int{1, 2, 3}
	before := fmt.Sprint(f, g, terms, counts)
	spoil := func(f api.Fact, e api.Errno) {
		if e != api.OK {
			t.Errorf("error %d", e)
		}
		_ = append(f.Terms, api.Term{Of: 99, Coef: 99})
		for i := range f.Terms {
			f.Terms[i] = api.Term{Of: 98, Coef: 98}
		}
	}
	spoil(Of(terms, 1))
	spoil(Of(f.Terms, 1))
	spoil(Add(f, g, 1, 1))
	spoil(Add(f, g, 1, 0))
	spoil(Add(f, g, 0, 1))
	Check(f)
	Sum(f, counts)
	Holds(f, counts)
	if after := fmt.Sprint(f, g, terms, counts); after != before {
		t.Errorf("%s, not %s", after, before)
	}
}

package value

import (
	"maps"
	"math/rand"
	"slices"
	"testing"
	"timebound/api"
	"timebound/check"
	"timebound/congruence"
	"timebound/eval"
	"timebound/interval"
	"timebound/print"
	"timebound/word"
)

// world is what all that has a name can be; nil: nothing comes there.
type world map[string]api.Value

// oracle is an abstract run as the chapter says it, with names in place of lists, and with all that is passed kept to the end.
type oracle struct {
	taken   int
	passed  [39][]world
	most    [13]int
	natural [13]bool
}

func met(v api.Value, i api.Interval, r api.Residue) api.Value {
	return plain(api.Value{Interval: i, Residue: r})
}

func (w world) expr(e api.Expr) api.Value {
	switch e.Kind {
	case api.ExprNum:
		return one(word.Wrap(e.Num))
	case api.ExprName, api.ExprIndex:
		return w[e.Name]
	}
	a, b := w.expr(e.Args[0]), w.expr(e.Args[1])
	return plain(api.Value{Interval: interval.Do(e.Op, a.Interval, b.Interval), Residue: congruence.Do(e.Op, a.Residue, b.Residue)})
}

func (w world) with(name string, v api.Value) world {
	w = maps.Clone(w)
	w[name] = v
	return w
}

// join joins what is there behind two ways.
func (w world) join(other world) world {
	switch {
	case w == nil:
		return other
	case other == nil:
		return w
	}
	w = maps.Clone(w)
	for name, v := range other {
		w[name] = plain(api.Value{Interval: interval.Join(w[name].Interval, v.Interval), Residue: congruence.Join(w[name].Residue, v.Residue)})
	}
	return w
}

// sure is the world in which a condition holds, nil if it cannot.
func (w world) sure(e api.Expr, truth bool) world {
	v := w.expr(e)
	if truth && v == one(0) || !truth && !lies(0, v) {
		return nil
	}
	compares := e.Op == api.Lt || e.Op == api.Le || e.Op == api.Eq || e.Op == api.Ne
	if e.Kind != api.ExprBin || !compares {
		return w
	}
	a, b := w.expr(e.Args[0]), w.expr(e.Args[1])
	i, k := interval.Refine(e.Op, truth, a.Interval, b.Interval)
	r, q := a.Residue, b.Residue
	if truth == (e.Op == api.Eq) && (e.Op == api.Eq || e.Op == api.Ne) {
		r = congruence.Meet(a.Residue, b.Residue)
		q = r
	}
	if e.Args[0].Kind == api.ExprName {
		w = w.with(e.Args[0].Name, plain(api.Value{Interval: i, Residue: r}))
	}
	if e.Args[1].Kind == api.ExprName {
		w = w.with(e.Args[1].Name, plain(api.Value{Interval: k, Residue: q}))
	}
	for _, arg := range e.Args {
		if w[arg.Name] == nothing && arg.Kind == api.ExprName {
			return nil
		}
	}
	return w
}

func (o *oracle) note(point int, w world) { o.passed[point] = append(o.passed[point], w) }

// walk returns the world behind statements.
func (o *oracle) walk(l []api.Stmt, w world) world {
	if len(l) == 0 || w == nil {
		return w
	}
	s := l[0]
	switch s.Kind {
	case api.StmtSet:
		w = w.with(s.Name, w.expr(s.Value[0]))
	case api.StmtStore:
		w = w.join(w.with(s.Name, w.expr(s.Value[0])))
	case api.StmtLock:
		w = o.walk(s.Then, w)
	case api.StmtIf:
		o.note(3*s.Label, w)
		yes, no := w.sure(s.Value[0], true), w.sure(s.Value[0], false)
		if s.Label == o.taken {
			no = nil
		}
		for i, way := range []world{yes, no} {
			if way != nil {
				o.note(3*s.Label+1+i, way)
			}
		}
		w = o.walk(s.Then, yes).join(o.walk(s.Else, no))
	case api.StmtWhile:
		w = o.loop(s, w)
	}
	return o.walk(l[1:], w)
}

// loop makes the list of all s(n) first, and then leaves them.
func (o *oracle) loop(s api.Stmt, w world) world {
	o.note(3*s.Label, w)
	states := []world{w}
	for n := 0; n < s.Max && n < len(states); n++ {
		if in := states[n].sure(s.Value[0], true); in != nil {
			o.most[s.Label] = max(o.most[s.Label], n+1)
			o.note(3*s.Label+1, in)
			if behind := o.walk(s.Then, in); behind != nil {
				states = append(states, behind)
			}
		}
	}
	var end world
	for n, w := range states {
		if n < s.Max {
			w = w.sure(s.Value[0], false)
		} else if w.sure(s.Value[0], true) != nil {
			o.natural[s.Label] = false
		}
		if w != nil {
			o.note(3*s.Label+2, w)
			end = end.join(w)
		}
	}
	return end
}

// analysis returns what the oracle finds for the first task of a program.
func (o *oracle) analysis(p api.Program, ranges []api.Range) api.Analysis {
	t := p.Tasks[0]
	w, names := world{}, []string{}
	for i, in := range t.Inputs {
		w[in.Name] = plain(api.Value{Interval: api.Interval{Lo: ranges[i].Lo, Hi: ranges[i].Hi}, Residue: api.Residue{M: 1}})
		names = append(names, in.Name)
	}
	for _, name := range t.Vars {
		w[name] = one(0)
		names = append(names, name)
	}
	for _, a := range t.Arrays {
		w[a.Name] = one(0)
	}
	for _, a := range p.Shared {
		w[a.Array.Name] = all
	}
	for l := range whiles(t.Body) {
		o.natural[l] = true
	}
	o.note(0, w)
	o.walk(t.Body, w)
	a := api.Analysis{Most: o.most[:], Natural: o.natural[:]}
	for _, worlds := range o.passed {
		var vars []api.Value
		for _, name := range names {
			v := nothing
			for _, w := range worlds {
				v = world{"": w[name]}.join(world{"": v})[""]
			}
			vars = append(vars, v)
		}
		a.Passes = append(a.Passes, len(worlds))
		a.Vars = append(a.Vars, vars)
	}
	return a
}

// whiles is the labels of all whiles.
func whiles(l []api.Stmt) map[int]bool {
	found := map[int]bool{}
	for _, s := range l {
		if s.Kind == api.StmtWhile {
			found[s.Label] = true
		}
		maps.Copy(found, whiles(s.Then))
		maps.Copy(found, whiles(s.Else))
	}
	return found
}

// ifs is the labels of all ifs.
func ifs(l []api.Stmt) []int {
	var found []int
	loops := whiles(l)
	for _, label := range check.Labels(l) {
		if !loops[label] {
			found = append(found, label)
		}
	}
	return found
}

// job is a run of a task for some inputs, which says at each point what the variables are.
type job struct {
	vars   map[string]int
	arrays map[string][]int
	see    func(point int)
	most   [13]int
	cut    [13]bool // a loop that was left because of Max alone
}

func (j *job) expr(e api.Expr) int { return eval.Expr(e, j.vars, j.arrays) }

func (j *job) walk(l []api.Stmt) {
	for _, s := range l {
		switch s.Kind {
		case api.StmtSet:
			j.vars[s.Name] = j.expr(s.Value[0])
		case api.StmtStore:
			list := j.arrays[s.Name]
			list[j.expr(s.Index[0])&(len(list)-1)] = j.expr(s.Value[0])
		case api.StmtLock:
			j.walk(s.Then)
		case api.StmtIf:
			j.see(3 * s.Label)
			if j.expr(s.Value[0]) != 0 {
				j.see(3*s.Label + 1)
				j.walk(s.Then)
			} else {
				j.see(3*s.Label + 2)
				j.walk(s.Else)
			}
		case api.StmtWhile:
			j.see(3 * s.Label)
			n := 0
			for n < s.Max && j.expr(s.Value[0]) != 0 {
				j.see(3*s.Label + 1)
				j.walk(s.Then)
				n++
			}
			j.most[s.Label] = max(j.most[s.Label], n)
			j.cut[s.Label] = j.cut[s.Label] || j.expr(s.Value[0]) != 0
			j.see(3*s.Label + 2)
		}
	}
}

// obeys reports whether a job of the first task is one that an analysis permits, and how often it passed each point.
func obeys(t *testing.T, p api.Program, a api.Analysis, inputs []int, lists [][]int) (bool, []int) {
	t.Helper()
	k := p.Tasks[0]
	j := &job{vars: map[string]int{}, arrays: map[string][]int{}}
	var names []string
	for i, in := range k.Inputs {
		j.vars[in.Name] = inputs[i]
		names = append(names, in.Name)
	}
	for _, name := range k.Vars {
		j.vars[name] = 0
		names = append(names, name)
	}
	for _, l := range k.Arrays {
		j.arrays[l.Name] = make([]int, l.Size)
	}
	for i, s := range p.Shared {
		j.arrays[s.Array.Name] = slices.Clone(lists[i])
	}
	counts, right := make([]int, 39), true
	j.see = func(point int) {
		counts[point]++
		right = right && counts[point] <= a.Passes[point]
		for i, name := range names {
			right = right && Has(a.Vars[point][i], j.vars[name])
		}
	}
	j.see(0)
	j.walk(k.Body)
	if o, e := eval.Run(p, 0, inputs, lists); e != api.OK || !slices.Equal(o.Counts, counts) {
		t.Fatalf("error %d: the jobs of these tests are others: %v, %v", e, o.Counts, counts)
	}
	for label := range whiles(k.Body) {
		right = right && j.most[label] <= a.Most[label] && !(a.Natural[label] && j.cut[label])
	}
	return right, counts
}

// random is a maker of tasks for the declarations of these tests.
type random struct {
	*rand.Rand
	labels []int
}

func pick[T any](r *random, list ...T) T { return list[r.Intn(len(list))] }

func n(n int) api.Expr { return api.Expr{Kind: api.ExprNum, Num: n} }

func v(name string) api.Expr { return api.Expr{Kind: api.ExprName, Name: name} }

func bin(op int, a, b api.Expr) api.Expr {
	return api.Expr{Kind: api.ExprBin, Op: op, Args: []api.Expr{a, b}}
}

// array returns the name of an array that can be used while a resource is held.
func (r *random) array(held string) string {
	switch held {
	case "r":
		return pick(r, "a", "b", "buf", "buf")
	case "q":
		return pick(r, "a", "b", "que", "que")
	}
	return pick(r, "a", "b")
}

func (r *random) expr(depth int, held string) api.Expr {
	kind := r.Intn(6)
	switch {
	case kind == 0 || depth == 1 && kind%2 == 0:
		return n(pick(r, 0, 1, 2, 3, 4, 5, -1, -4, 8, 31, 1<<31-1, -1<<31+1, r.Intn(100)))
	case kind == 1 || depth == 1:
		return v(pick(r, "x", "y", "i", "k"))
	case kind == 2:
		return api.Expr{Kind: api.ExprIndex, Name: r.array(held), Args: []api.Expr{r.expr(depth-1, held)}}
	}
	return bin(pick(r, api.Add, api.Sub, api.Mul, api.And, api.Or, api.Shl, api.Add, 1+r.Intn(api.Ne)), r.expr(depth-1, held), r.expr(depth-1, held))
}

// condition is mostly a comparison of a variable and something small.
func (r *random) condition(held string) []api.Expr {
	a, b := v(pick(r, "x", "y", "i", "k")), r.expr(1+r.Intn(2), held)
	if r.Intn(2) == 0 {
		a, b = b, a
	}
	if r.Intn(6) == 0 {
		return []api.Expr{r.expr(1+r.Intn(4), held)}
	}
	return []api.Expr{bin(pick(r, api.Lt, api.Le, api.Eq, api.Ne), a, b)}
}

func (r *random) label() int {
	l := r.labels[0]
	r.labels = r.labels[1:]
	return l
}

func (r *random) block(depth int, held string) []api.Stmt {
	var l []api.Stmt
	for range r.Intn(4) {
		l = append(l, r.stmt(depth, held))
	}
	return l
}

func (r *random) stmt(depth int, held string) api.Stmt {
	kind := 1 + r.Intn(5)
	switch {
	case depth > 1 && kind == api.StmtIf && len(r.labels) > 0:
		return api.Stmt{Kind: kind, Value: r.condition(held), Label: r.label(), Then: r.block(depth-1, held), Else: r.block(depth-1, held)}
	case depth > 1 && kind == api.StmtWhile && len(r.labels) > 0:
		s := api.Stmt{Kind: kind, Value: r.condition(held), Max: r.Intn(7), Label: r.label(), Then: r.block(depth-1, held)}
		if r.Intn(2) == 0 {
			// One that often ends by itself, in time or just not.
			s.Value[0] = bin(pick(r, api.Lt, api.Le, api.Ne), v("i"), pick(r, n(r.Intn(7)), v("x"), v("y")))
			s.Then = append(s.Then, api.Stmt{Kind: api.StmtSet, Name: "i", Value: []api.Expr{bin(api.Add, v("i"), n(1+r.Intn(2)))}})
		}
		return s
	case depth > 1 && kind == api.StmtLock && held == "":
		name := pick(r, "r", "q")
		return api.Stmt{Kind: kind, Name: name, Then: r.block(depth-1, name)}
	case kind == api.StmtStore:
		return api.Stmt{Kind: kind, Name: r.array(held), Index: []api.Expr{r.expr(1+r.Intn(3), held)}, Value: []api.Expr{r.expr(1+r.Intn(3), held)}}
	}
	return api.Stmt{Kind: api.StmtSet, Name: pick(r, "x", "y", "i", "i", "k", "k"), Value: []api.Expr{r.expr(1+r.Intn(3), held)}}
}

// whole returns a program that is right.
func (r *random) whole(t *testing.T) api.Program {
	for {
		p := program(t, "")
		r.labels = r.Perm(api.MaxLabels)
		for i := range r.labels {
			r.labels[i]++
		}
		for range 1 + r.Intn(5) {
			p.Tasks[0].Body = append(p.Tasks[0].Body, r.stmt(1+r.Intn(5), ""))
		}
		if check.Program(p) == api.OK {
			return p
		}
	}
}

// part returns a range within another one.
func (r *random) part(lo, hi int) api.Range {
	if r.Intn(3) == 0 {
		return api.Range{Lo: lo, Hi: hi}
	}
	a, b := lo+r.Intn(hi-lo+1), lo+r.Intn(hi-lo+1)
	return api.Range{Lo: min(a, b), Hi: max(a, b)}
}

func (r *random) from(in api.Range) int { return in.Lo + r.Intn(in.Hi-in.Lo+1) }

// TestAgainstOracleAndJobs analyses random tasks, also with an if that is taken. The consequences of the chapter hold for jobs.
func TestAgainstOracleAndJobs(t *testing.T) {
	r := &random{Rand: rand.New(rand.NewSource(9))}
	var passed [39]int
	jobs := 0
	for range 1200 {
		p := r.whole(t)
		ranges := []api.Range{r.part(0, 15), r.part(-3, 3)}
		for _, taken := range append(ifs(p.Tasks[0].Body), 0) {
			a, e := Analyse(p, 0, ranges, taken)
			want := (&oracle{taken: taken}).analysis(p, ranges)
			if e != api.OK || report(a) != report(want) {
				text, _ := print.Program(p)
				t.Fatalf("%s\n%v, taken %d: error %d\n     %s\nnot: %s", text, ranges, taken, e, report(a), report(want))
			}
			for range 4 {
				inputs := []int{r.from(ranges[0]), r.from(ranges[1])}
				lists := [][]int{{word.Wrap(r.Int()), r.Intn(9), r.Intn(9), -r.Intn(9)}, {r.Intn(9), r.Intn(9)}}
				right, counts := obeys(t, p, a, inputs, lists)
				if taken != 0 && counts[3*taken+2] > 0 {
					continue
				}
				if !right {
					text, _ := print.Program(p)
					t.Fatalf("%s\n%v, taken %d: %s\nbut the inputs %v", text, ranges, taken, report(a), inputs)
				}
				jobs++
			}
			for i, n := range a.Passes {
				passed[i] += n
			}
		}
	}
	for i, n := range passed {
		if i != 1 && i != 2 && n < 300 {
			t.Errorf("point %d is passed %d times only", i, n)
		}
	}
	if jobs < 5000 {
		t.Errorf("only %d jobs", jobs)
	}
}

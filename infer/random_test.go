package infer

import (
	"fmt"
	"math/rand"
	"slices"
	"strings"
	"testing"
	"timebound/api"
	"timebound/check"
	"timebound/eval"
	"timebound/print"
	"timebound/value"
	"timebound/word"
)

// random is a maker of texts of tasks. It notes the labels that it gives: those of ifs, those of whiles, and which of them are in a loop.
type random struct {
	*rand.Rand
	labels      []int
	ifs, whiles []int
	inner       [13]bool
	loops       int // around what is made
	held        bool
}

func pick[T any](r *random, list ...T) T { return list[r.Intn(len(list))] }

func (r *random) name() string { return pick(r, "x", "y", "i", "k") }

func (r *random) expr() string {
	switch r.Intn(5) {
	case 0:
		return r.name()
	case 1:
		return fmt.Sprint(r.Intn(8))
	case 2:
		if r.held {
			return "buf[" + r.name() + "]"
		}
		return "a[" + r.name() + "]"
	}
	return fmt.Sprintf("(%s %s %d)", r.name(), pick(r, "+", "-", "*", "&", ">>"), r.Intn(5))
}

func (r *random) condition() string {
	if r.Intn(8) == 0 {
		return r.expr()
	}
	a, b := r.name(), pick(r, r.expr(), fmt.Sprint(r.Intn(10)), fmt.Sprint(r.Intn(10)))
	if r.Intn(2) == 0 {
		a, b = b, a
	}
	return a + pick(r, " < ", " <= ", " == ", " != ") + b
}

func (r *random) label() int {
	label := r.labels[0]
	r.labels = r.labels[1:]
	r.inner[label] = r.loops > 0
	return label
}

// list returns some statements of a depth.
func (r *random) list(depth int) string {
	var l []string
	for range r.Intn(4) {
		l = append(l, r.stmt(depth))
	}
	return strings.Join(l, " ")
}

func (r *random) loop(depth int) string {
	label := r.label()
	r.whiles = append(r.whiles, label)
	r.loops++
	defer func() { r.loops-- }()
	if r.Intn(2) == 0 {
		// One that often ends by itself, in time or just not.
		return fmt.Sprintf("while i < %s max %d label %d { %s i = i + 1 }", pick(r, "x", "3", "5"), r.Intn(6), label, r.list(depth))
	}
	return fmt.Sprintf("while %s max %d label %d { %s }", r.condition(), r.Intn(5), label, r.list(depth))
}

func (r *random) stmt(depth int) string {
	kind := r.Intn(10)
	switch {
	case kind < 4 && depth > 1 && len(r.labels) > 0:
		label := r.label()
		r.ifs = append(r.ifs, label)
		return fmt.Sprintf("if %s label %d { %s } else { %s }", r.condition(), label, r.list(depth-1), r.list(depth-1))
	case kind < 6 && depth > 1 && len(r.labels) > 0:
		return r.loop(depth - 1)
	case kind == 6 && depth > 1 && !r.held:
		r.held = true
		defer func() { r.held = false }()
		return "lock r { " + r.list(depth-1) + " }"
	case kind == 7:
		return fmt.Sprintf("a[%s] = %s", r.name(), r.expr())
	}
	return pick(r, "x", "y", "i", "k", "k") + " = " + r.expr()
}

// whole returns a program that is right, with claims about any two of its ifs.
func (r *random) whole(t *testing.T) api.Program {
	for {
		r.labels, r.ifs, r.whiles, r.inner = r.Perm(api.MaxLabels), nil, nil, [13]bool{}
		for i := range r.labels {
			r.labels[i]++
		}
		body, claims := r.list(5)+" "+r.list(4)+" "+r.list(3), ""
		for range r.Intn(api.MaxClaims + 1) {
			if len(r.ifs) > 1 {
				two := r.Perm(len(r.ifs))
				claims += fmt.Sprintf("never %d %d\n", r.ifs[two[0]], r.ifs[two[1]])
			}
		}
		if p := program(t, claims, body); check.Program(p) == api.OK {
			return p
		}
	}
}

// part returns a range within another one.
func (r *random) part(in api.Range) api.Range {
	if r.Intn(3) == 0 {
		return in
	}
	a, b := r.from(in), r.from(in)
	return api.Range{Lo: min(a, b), Hi: max(a, b)}
}

func (r *random) from(in api.Range) int { return in.Lo + r.Intn(in.Hi-in.Lo+1) }

// analysed returns an analysis that must be there.
func analysed(t *testing.T, p api.Program, ranges []api.Range, taken int) api.Analysis {
	t.Helper()
	a, e := value.Analyse(p, 0, ranges, taken)
	if e != api.OK {
		t.Fatalf("error %d", e)
	}
	return a
}

// expected returns the proof of a task that was just made, by what was noted of it and by its analyses.
func (r *random) expected(t *testing.T, p api.Program, ranges []api.Range) api.Proof {
	t.Helper()
	a := analysed(t, p, ranges, 0)
	proof := api.Proof{Most: a.Most, Natural: a.Natural}
	of := func(most int, terms ...api.Term) {
		proof.Facts = append(proof.Facts, api.Fact{Terms: terms, Most: most})
	}
	for label := 1; label <= api.MaxLabels; label++ {
		if slices.Contains(r.ifs, label) || slices.Contains(r.whiles, label) {
			for point := 3 * label; point < 3*label+3; point++ {
				of(a.Passes[point], api.Term{Of: point, Coef: 1})
			}
		}
	}
	for label := 1; label <= api.MaxLabels; label++ {
		switch {
		case !slices.Contains(r.whiles, label):
		case a.Most[label] == 0:
			of(0, api.Term{Of: 3*label + 1, Coef: 1})
		default:
			of(0, api.Term{Of: 3 * label, Coef: -a.Most[label]}, api.Term{Of: 3*label + 1, Coef: 1})
		}
	}
	for _, c := range p.Tasks[0].Claims {
		b, d := analysed(t, p, ranges, c.A).Passes[3*c.B+1], analysed(t, p, ranges, c.B).Passes[3*c.A+1]
		if !r.inner[c.A] && !r.inner[c.B] && b*d == 0 {
			proof.Never = append(proof.Never, c)
			of(1, api.Term{Of: 3*min(c.A, c.B) + 1, Coef: 1}, api.Term{Of: 3*max(c.A, c.B) + 1, Coef: 1})
		}
	}
	return proof
}

// broken returns the facts that counts do not obey, and the claims.
func broken(proof api.Proof, counts []int) []string {
	var l []string
	for _, f := range proof.Facts {
		sum := 0
		for _, t := range f.Terms {
			sum += t.Coef * counts[t.Of]
		}
		if sum > f.Most {
			l = append(l, show(f))
		}
	}
	for _, c := range proof.Never {
		if counts[3*c.A+1] > 0 && counts[3*c.B+1] > 0 {
			l = append(l, fmt.Sprintf("never %d %d", c.A, c.B))
		}
	}
	return l
}

// longer returns statements in which the loop with a label has one round more.
func longer(l []api.Stmt, label int) []api.Stmt {
	l = slices.Clone(l)
	for i, s := range l {
		if s.Kind == api.StmtWhile && s.Label == label {
			l[i].Max++
		}
		l[i].Then, l[i].Else = longer(s.Then, label), longer(s.Else, label)
	}
	return l
}

// run runs a job of the first task, which must have no error.
func run(t *testing.T, p api.Program, inputs []int, lists [][]int) api.Outcome {
	t.Helper()
	o, e := eval.Run(p, 0, inputs, lists)
	if e != api.OK {
		t.Fatalf("error %d", e)
	}
	return o
}

// TestAgainstNotesAndJobs proves things of random tasks, and looks at jobs of them: the consequences of the chapter hold.
func TestAgainstNotesAndJobs(t *testing.T) {
	r := &random{Rand: rand.New(rand.NewSource(10))}
	proved, natural, open := 0, 0, 0
	for range 500 {
		p := r.whole(t)
		text, _ := print.Program(p)
		ranges := []api.Range{r.part(full()[0]), r.part(full()[1])}
		proof, e := Prove(p, 0, ranges)
		if want := r.expected(t, p, ranges); e != api.OK || report(proof) != report(want) {
			t.Fatalf("%s\n%v: error %d\n     %s\nnot: %s", text, ranges, e, report(proof), report(want))
		}
		for label := range 13 {
			noted := (slices.Contains(r.ifs, label) || slices.Contains(r.whiles, label)) && !r.inner[label]
			if Outside(p.Tasks[0], label) != noted {
				t.Fatalf("%s\nlabel %d is outside: %v", text, label, !noted)
			}
		}
		proved, open = proved+len(proof.Never), open+len(p.Tasks[0].Claims)-len(proof.Never)
		for range 3 {
			inputs := []int{r.from(ranges[0]), r.from(ranges[1])}
			lists := [][]int{{word.Wrap(r.Int()), r.Intn(9), r.Intn(9), -r.Intn(9)}}
			o := run(t, p, inputs, lists)
			if l := broken(proof, o.Counts); len(l) > 0 {
				t.Fatalf("%s\nthe inputs %v break %v", text, inputs, l)
			}
			for _, label := range r.whiles {
				q := p
				q.Tasks = []api.Task{p.Tasks[0]}
				q.Tasks[0].Body = longer(p.Tasks[0].Body, label)
				if !proof.Natural[label] || check.Program(q) != api.OK {
					continue
				}
				// Max does not matter to a loop that never ends because of it.
				if long := run(t, q, inputs, lists); !slices.Equal(o.Counts, long.Counts) {
					t.Fatalf("%s\nthe inputs %v: loop %d is left because of Max", text, inputs, label)
				}
				natural += o.Counts[3*label+1]
			}
		}
	}
	if proved < 100 || open < 100 || natural < 200 {
		t.Errorf("%d claims are proved, %d are not; %d rounds of natural loops", proved, open, natural)
	}
}

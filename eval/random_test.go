package eval

import (
	"math/rand"
	"testing"
	"timebound/api"
	"timebound/check"
	"timebound/print"
	"timebound/word"
)

// machine runs a task in another way than Run: as a list of small steps that jump, with a stack for values.
type machine struct {
	program []func()
	next    int
	stack   []int
	memory  map[string][]int // a variable is a list of one
	rounds  []int            // of each while of the program, those of this time
	counts  [39]int
	steps   int
}

func (m *machine) add(steps ...func()) { m.program = append(m.program, steps...) }

func (m *machine) push(n int) { m.stack = append(m.stack, n) }

func (m *machine) pop() int {
	n := m.stack[len(m.stack)-1]
	m.stack = m.stack[:len(m.stack)-1]
	return n
}

// cell is the element of an array that the top of the stack says.
func (m *machine) cell(name string) *int {
	list := m.memory[name]
	// Sizes are powers of two: the last bits of two's complement count from 0 on.
	return &list[m.pop()&(len(list)-1)]
}

func (m *machine) expr(e api.Expr) {
	for _, a := range e.Args {
		m.expr(a)
	}
	switch e.Kind {
	case api.ExprNum:
		m.add(func() { m.push(e.Num) })
	case api.ExprName:
		m.add(func() { m.push(m.memory[e.Name][0]) })
	case api.ExprIndex:
		m.add(func() { m.push(*m.cell(e.Name)) })
	case api.ExprBin:
		m.add(func() {
			b := m.pop()
			n, _ := word.Do(e.Op, m.pop(), b)
			m.push(n)
		})
	}
}

func (m *machine) count(point int) { m.add(func() { m.counts[point]++ }) }

// branch goes to a place if it is asked to. The place is set later.
func (m *machine) branch(goes func() bool) *int {
	place := new(int)
	m.add(func() {
		if goes() {
			m.next = *place
		}
	})
	return place
}

func (m *machine) value(e api.Expr) {
	m.expr(e)
	m.add(func() { m.steps++ })
}

func (m *machine) stmts(l []api.Stmt) {
	for _, s := range l {
		switch s.Kind {
		case api.StmtSet:
			m.value(s.Value[0])
			m.add(func() { m.memory[s.Name][0] = m.pop() })
		case api.StmtStore:
			m.value(s.Value[0])
			m.expr(s.Index[0])
			m.add(func() {
				cell := m.cell(s.Name)
				*cell = m.pop()
			})
		case api.StmtIf:
			m.ifs(s)
		case api.StmtWhile:
			m.while(s)
		case api.StmtLock:
			m.stmts(s.Then)
		}
	}
}

func (m *machine) ifs(s api.Stmt) {
	m.count(3 * s.Label)
	m.value(s.Value[0])
	other := m.branch(func() bool { return m.pop() == 0 })
	m.count(3*s.Label + 1)
	m.stmts(s.Then)
	end := m.branch(func() bool { return true })
	*other = len(m.program)
	m.count(3*s.Label + 2)
	m.stmts(s.Else)
	*end = len(m.program)
}

func (m *machine) while(s api.Stmt) {
	at := len(m.rounds)
	m.rounds = append(m.rounds, 0)
	m.count(3 * s.Label)
	m.add(func() { m.rounds[at] = 0 })
	head := len(m.program)
	most := m.branch(func() bool { return m.rounds[at] == s.Max })
	m.value(s.Value[0])
	end := m.branch(func() bool { return m.pop() == 0 })
	m.count(3*s.Label + 1)
	m.stmts(s.Then)
	m.add(func() { m.rounds[at]++ })
	*m.branch(func() bool { return true }) = head
	*most, *end = len(m.program), len(m.program)
	m.count(3*s.Label + 2)
}

// run returns what a job of the first task leads to.
func (m *machine) run(p api.Program, inputs []int, lists [][]int) api.Outcome {
	t := p.Tasks[0]
	m.memory = map[string][]int{}
	var vars []string
	for i, in := range t.Inputs {
		m.memory[in.Name] = []int{inputs[i]}
		vars = append(vars, in.Name)
	}
	for _, name := range t.Vars {
		m.memory[name] = []int{0}
		vars = append(vars, name)
	}
	for _, a := range t.Arrays {
		m.memory[a.Name] = make([]int, a.Size)
	}
	for i, s := range p.Shared {
		m.memory[s.Array.Name] = append([]int{}, lists[i]...)
	}
	m.count(0)
	m.stmts(t.Body)
	for m.next < len(m.program) {
		m.next++
		m.program[m.next-1]()
	}
	o := api.Outcome{Counts: m.counts[:], Steps: m.steps}
	for _, name := range vars {
		o.Vars = append(o.Vars, m.memory[name][0])
	}
	for _, a := range t.Arrays {
		o.Arrays = append(o.Arrays, m.memory[a.Name])
	}
	for _, s := range p.Shared {
		o.Shared = append(o.Shared, m.memory[s.Array.Name])
	}
	return o
}

// random is a maker of tasks for the declarations of these tests.
type random struct {
	*rand.Rand
	labels []int
}

func pick[T any](r *random, list ...T) T { return list[r.Intn(len(list))] }

// array returns the name of an array that can be used while a resource is held.
func (r *random) array(held string) string {
	switch held {
	case "r":
		return pick(r, "a", "b", "buf", "buf")
	case "q":
		return pick(r, "a", "b", "que", "que")
	}
	return pick(r, "a", "b")
}

func (r *random) expr(depth int, held string) api.Expr {
	kind := r.Intn(5)
	switch {
	case kind == 0 || depth == 1 && kind%2 == 0:
		return n(pick(r, 0, 1, 2, 3, 5, -1, -4, 31, 1<<31-1, -1<<31+1, r.Intn(100)))
	case kind == 1 || depth == 1:
		return v(pick(r, "x", "y", "i", "k"))
	case kind == 2:
		return at(r.array(held), r.expr(depth-1, held))
	}
	return bin(1+r.Intn(api.Ne), r.expr(depth-1, held), r.expr(depth-1, held))
}

func (r *random) label() int {
	l := r.labels[0]
	r.labels = r.labels[1:]
	return l
}

func (r *random) block(depth int, held string) []api.Stmt {
	var l []api.Stmt
	for range r.Intn(4) {
		l = append(l, r.stmt(depth, held))
	}
	return l
}

func (r *random) stmt(depth int, held string) api.Stmt {
	value := []api.Expr{r.expr(1+r.Intn(4), held)}
	kind := 1 + r.Intn(5)
	switch {
	case depth > 1 && kind == api.StmtIf && len(r.labels) > 0:
		return api.Stmt{Kind: kind, Value: value, Label: r.label(), Then: r.block(depth-1, held), Else: r.block(depth-1, held)}
	case depth > 1 && kind == api.StmtWhile && len(r.labels) > 0:
		s := api.Stmt{Kind: kind, Value: value, Max: r.Intn(6), Label: r.label(), Then: r.block(depth-1, held)}
		if r.Intn(2) == 0 {
			// One that often ends by itself, in time or just not.
			s.Value[0] = bin(pick(r, api.Lt, api.Le, api.Ne), v("i"), n(r.Intn(5)))
			s.Then = append(s.Then, api.Stmt{Kind: api.StmtSet, Name: "i", Value: []api.Expr{bin(api.Add, v("i"), n(1))}})
		}
		return s
	case depth > 1 && kind == api.StmtLock && held == "":
		name := pick(r, "r", "q")
		return api.Stmt{Kind: kind, Name: name, Then: r.block(depth-1, name)}
	case kind == api.StmtStore:
		return api.Stmt{Kind: kind, Name: r.array(held), Index: []api.Expr{r.expr(1+r.Intn(3), held)}, Value: value}
	}
	return api.Stmt{Kind: api.StmtSet, Name: pick(r, "x", "y", "i", "k"), Value: value}
}

// whole returns a program that is right.
func (r *random) whole(t *testing.T) api.Program {
	for {
		p := program(t, "")
		r.labels = r.Perm(api.MaxLabels)
		for i := range r.labels {
			r.labels[i]++
		}
		for range 1 + r.Intn(5) {
			p.Tasks[0].Body = append(p.Tasks[0].Body, r.stmt(1+r.Intn(5), ""))
		}
		if check.Program(p) == api.OK {
			return p
		}
	}
}

func TestRunAgainstAMachine(t *testing.T) {
	r := &random{Rand: rand.New(rand.NewSource(6))}
	var passed [39]int
	steps := 0
	for range 5000 {
		p := r.whole(t)
		inputs := []int{r.Intn(16), r.Intn(7) - 3}
		lists := [][]int{{r.Int(), r.Intn(9), r.Intn(9), -r.Int()}, {r.Intn(9), r.Intn(9)}}
		for i := range lists[0] {
			lists[0][i] = word.Wrap(lists[0][i])
		}
		o, e := Run(p, 0, inputs, lists)
		want := new(machine).run(p, inputs, lists)
		if e != api.OK || !same(o, want) {
			text, _ := print.Program(p)
			t.Fatalf("%s\n%v: error %d, %+v, not %+v", text, inputs, e, o, want)
		}
		adds(t, p.Tasks[0].Body, o)
		for i, n := range o.Counts {
			passed[i] += n
		}
		steps += o.Steps
	}
	for i, n := range passed {
		if i != 1 && i != 2 && n < 500 {
			t.Errorf("point %d was passed %d times only", i, n)
		}
	}
	if steps < 30000 {
		t.Errorf("only %d steps", steps)
	}
}

// adds checks the consequences of the chapter.
func adds(t *testing.T, body []api.Stmt, o api.Outcome) {
	t.Helper()
	if weight := check.Weight(body); o.Steps > weight {
		t.Errorf("%d steps, weight %d", o.Steps, weight)
	}
	seen := map[int]bool{0: true}
	var pass func(l []api.Stmt)
	pass = func(l []api.Stmt) {
		for _, s := range l {
			reached, begun, left := o.Counts[3*s.Label], o.Counts[3*s.Label+1], o.Counts[3*s.Label+2]
			if s.Kind == api.StmtIf && reached != begun+left || s.Kind == api.StmtWhile && (reached != left || begun > s.Max*reached) {
				t.Errorf("label %d: %d, %d, %d", s.Label, reached, begun, left)
			}
			seen[s.Label] = true
			pass(s.Then)
			pass(s.Else)
		}
	}
	pass(body)
	for point, n := range o.Counts {
		if !seen[point/3] && n != 0 || point < 3 && n != []int{1, 0, 0}[point] {
			t.Errorf("point %d is passed %d times", point, n)
		}
	}
}

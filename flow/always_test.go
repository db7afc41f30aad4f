package flow

import (
	"fmt"
	"math/rand"
	"reflect"
	"slices"
	"strconv"
	"strings"
	"sync"
	"testing"

	"raycone/api"
	"raycone/check"
	"raycone/lang"
	"raycone/machine"
)

// maker of texts at random, with x, y and an array a of 3 places.
type maker struct {
	*rand.Rand
	names []string
	calls bool
}

func (m maker) one(l ...string) string { return l[m.Intn(len(l))] }

func (m maker) term() string {
	small := m.one(m.one(m.names...), strconv.Itoa(m.Intn(4)))
	switch m.Intn(8) {
	case 0:
		return "a[" + m.one("0", "1", "2", m.one(m.names...)) + "]"
	case 1:
		return m.one(m.names...) + m.one("/", "%") + m.one("2", "3", m.one(m.names...))
	case 2:
		return m.one(m.names...) + m.one("+", "-", "*") + small
	}
	return small
}

func (m maker) cond() string {
	if m.Intn(12) == 0 {
		return "false"
	}
	return m.rows()
}

// rows of a condition, often several, and of several tests.
func (m maker) rows() string {
	var rows []string
	for range 1 + m.Intn(3) {
		var tests []string
		for range 1 + m.Intn(3) {
			tests = append(tests, m.term()+m.one("<", "<=", "==", "!=", ">", ">=")+m.term())
		}
		if m.Intn(12) == 0 {
			tests = []string{"true"}
		}
		rows = append(rows, strings.Join(tests, " and "))
	}
	return strings.Join(rows, " or ")
}

func (m maker) block(many, deep int) string {
	s := ""
	for range m.Intn(many + 1) {
		s += m.statement(deep)
	}
	return s
}

func (m maker) statement(deep int) string {
	x := m.one(m.names...)
	switch n := m.Intn(16); {
	case n < 1:
		return m.one("assert ", "assume ") + m.rows() + " or " + m.one("x<9", "a[0]!=1") + ";"
	case n < 3:
		return m.one("assert ", "assume ") + m.cond() + ";"
	case n < 4:
		return "read " + x + ";"
	case n < 6:
		return "a[" + m.one("0", "1", "2", x) + "]=" + m.term() + ";"
	case n < 8 && deep > 0:
		return "if " + m.cond() + "{" + m.block(2, deep-1) + "}" + m.one("", "else{"+m.block(2, deep-1)+"}")
	case n < 9 && deep > 0:
		return "while " + m.cond() + "{" + m.block(2, deep-1) + "}"
	case n < 11 && deep > 0:
		return x + "=0;while " + x + "<" + strconv.Itoa(m.Intn(4)) + "{" + m.block(2, deep-1) + x + "=" + x + "+1;}"
	case n < 12 && m.calls:
		return x + "=call f(" + m.term() + "," + m.term() + ");"
	}
	return x + "=" + m.term() + ";"
}

// program at random, of so many statements in main at most.
func (m maker) program(many int) string {
	s := "var x;var y;array a[3];"
	if m.Intn(2) == 0 {
		in := maker{Rand: m.Rand, names: []string{"x", "u", "v"}}
		s += "proc f(u,v){" + in.block(3, 1) + "return " + in.term() + ";}"
		m.calls = true
	}
	m.names = []string{"x", "y"}
	return s + "main{" + m.block(many, 3) + "}"
}

// programs at random that have a graph.
func programs(t *testing.T, seed int64, many int, see func(p lang.Program, g Graph, r *rand.Rand)) {
	t.Helper()
	r := rand.New(rand.NewSource(seed))
	for n := 0; n < many; {
		p := read(t, maker{Rand: r}.program(5))
		g, err := Build(p)
		switch {
		case err == nil:
			n++
			see(p, g, r)
		case err != api.ErrBound:
			t.Fatal(told(p), err)
		}
	}
}

// layer of a graph in texts: another way to lay statements than the builder's.
type layer struct {
	points int
	heads  []int
	lines  []string
}

func (y *layer) next() int {
	y.points++
	return y.points - 1
}

func (y *layer) line(from, to int, act string) {
	y.lines = append(y.lines, fmt.Sprintf("%d>%d %s", from, to, act))
}

// rows of a condition, or of its opposite, as texts.
func rows(c lang.Cond) []string {
	var out []string
	for _, l := range c {
		out = append(out, row(l))
	}
	return out
}

func oppositeRows(c lang.Cond) []string {
	if len(c) == 0 {
		return []string{""}
	}
	var out []string
	for _, t := range c[0] {
		t.Rel = []string{"<", "<=", "==", "!=", ">", ">="}[slices.Index([]string{">=", ">", "!=", "==", "<=", "<"}, t.Rel)]
		for _, rest := range oppositeRows(c[1:]) {
			out = append(out, strings.TrimSuffix(row([]lang.Test{t})+"&"+rest, "&"))
		}
	}
	return out
}

func (y *layer) by(from int, kind string, rows []string) int {
	to := y.next()
	for _, s := range rows {
		y.line(from, to, strings.TrimSpace(kind+" "+s))
	}
	return to
}

func (y *layer) lay(from int, l []lang.Stmt) int {
	if len(l) == 0 {
		return from
	}
	s := l[0]
	switch s.Kind {
	case "set", "put", "read":
		act := s.Kind + " " + s.Name
		for _, e := range s.Args {
			act += " " + term(e)
		}
		from = y.by(from, act, []string{""})
	case "assert":
		y.by(from, "fail", oppositeRows(s.Cond))
		from = y.by(from, "test", rows(s.Cond))
	case "assume":
		from = y.by(from, "test", rows(s.Cond))
	case "if":
		body := y.lay(y.by(from, "test", rows(s.Cond)), s.Body)
		other := y.lay(y.by(from, "test", oppositeRows(s.Cond)), s.Else)
		from = y.by(body, "skip", []string{""})
		y.line(other, from, "skip")
	case "while":
		head := y.by(from, "skip", []string{""})
		y.heads = append(y.heads, head)
		y.line(y.lay(y.by(head, "test", rows(s.Cond)), s.Body), head, "skip")
		from = y.by(head, "test", oppositeRows(s.Cond))
	}
	return y.lay(from, l[1:])
}

// P131: programs at random, laid another way. P132: their graphs are valid.
func TestBuildRandom(t *testing.T) {
	r := rand.New(rand.NewSource(1))
	seen := map[bool]int{}
	for range 3000 {
		p := read(t, maker{Rand: r}.program([]int{5, 20, 50}[r.Intn(3)]))
		q, err := check.Inline(p)
		if err != nil {
			continue
		}
		y := &layer{points: 1}
		y.lay(0, q.Main)
		g, err := Build(p)
		fits := y.points <= 120 && len(y.lines) <= 400
		seen[fits]++
		if !fits {
			if err != api.ErrBound || !isZero(g) {
				t.Fatalf("%s: %v", told(p), err)
			}
			continue
		}
		want := fmt.Sprintf("%d%v %s", y.points, y.heads, strings.Join(y.lines, "; "))
		if got := text(g); got != want || err != nil || told(g.Vars) != told(q.Vars) || told(g.Arrays) != told(q.Arrays) {
			t.Fatalf("%s: %s %v, want %s", told(p), got, err, want)
		}
		if err := Valid(g); err != nil {
			t.Fatalf("%s: %v", told(p), err)
		}
	}
	if seen[true] < 1500 || seen[false] < 100 {
		t.Error(seen)
	}
}

// trail of a graph: the states come to, one for each edge, until there is no edge or more than one way.
type trail struct {
	states []string
	points []int
	last   string // kind of the last edge
	ended  bool   // no edge can be taken
}

func trailOf(t *testing.T, g Graph, input []int, most int) trail {
	t.Helper()
	at, vars, arrays := 0, make([]int, len(g.Vars)), [][]int{{0, 0, 0}}
	w := trail{states: []string{fmt.Sprint(vars[:2], arrays)}, points: []int{0}}
	for range most {
		reads := slices.ContainsFunc(g.Edges, func(e Edge) bool { return e.From == at && e.Act.Kind == "read" })
		if reads && len(input) == 0 {
			return w
		}
		in := 0
		if reads {
			in, input = input[0], input[1:]
		}
		l, err := Steps(g, at, vars, arrays, in)
		if err != nil {
			t.Fatal(text(g), err)
		}
		if len(l) == 0 {
			w.ended = true
			return w
		}
		for _, n := range l[1:] {
			if n.To != l[0].To || g.Edges[n.Edge].Act.Kind != g.Edges[l[0].Edge].Act.Kind {
				return w
			}
		}
		at, vars, arrays = l[0].To, l[0].Vars, l[0].Arrays
		w.last = g.Edges[l[0].Edge].Act.Kind
		w.states = append(w.states, fmt.Sprint(vars[:2], arrays))
		w.points = append(w.points, at)
	}
	return w
}

// P134: whatever a run does, the graph can do, state by state; it fails just if the run does, and is done where the last statement ends.
func TestGraphDoesWhatIsRun(t *testing.T) {
	seen := map[string]int{}
	programs(t, 2, 1000, func(p lang.Program, g Graph, r *rand.Rand) {
		input := make([]int, r.Intn(4))
		for i := range input {
			input[i] = r.Intn(9) - 3
		}
		const fuel = 25
		w := trailOf(t, g, input, 4*fuel)
		var end machine.End
		next := 0
		for steps := range fuel + 1 {
			var err error
			if end, err = machine.Run(p, input, steps); err != nil {
				t.Fatal(err)
			}
			state := fmt.Sprint(end.Vars, end.Arrays)
			found := slices.Index(w.states[next:], state)
			if found < 0 {
				t.Fatalf("%s %v: %v is not met behind %d: %v of %s", told(p), input, end, next, w, text(g))
			}
			next += found
			if end.Kind != "tired" {
				break
			}
		}
		seen[end.Kind]++
		last := len(w.states) - 1
		same := w.ended && w.states[last] == fmt.Sprint(end.Vars, end.Arrays)
		is := true
		switch end.Kind {
		case "done":
			is = same && w.points[last] == g.Points-1 && w.last != "fail"
		case "stuck":
			is = same && w.points[last] != g.Points-1 && w.last != "fail"
		case "failed":
			is = same && w.last == "fail"
		}
		if !is {
			t.Fatalf("%s %v: %v, %v of %s", told(p), input, end, w, text(g))
		}
	})
	for _, kind := range []string{"done", "stuck", "failed", "wrong", "tired"} {
		if seen[kind] < 30 {
			t.Errorf("%s: %d", kind, seen[kind])
		}
	}
}

// P134: where a run is wrong the graph may go on, by a row that the run had not come to.
func TestGraphGoesOn(t *testing.T) {
	s := "var x;array a[3];main{assume 1/x==1 or x==0;x=5;}"
	if e, err := machine.Run(read(t, s), nil, 9); e.Kind != "wrong" || err != nil {
		t.Error(e, err)
	}
	g := built(t, s)
	l, err := Steps(g, 0, []int{0}, [][]int{{0, 0, 0}}, 0)
	if got := fmt.Sprint(l); got != "[{1 1 [0] [[0 0 0]]}]" || err != nil {
		t.Error(got, err)
	}
}

// lists of a graph: all lists of terms and of tests.
func lists(g Graph) (terms [][]lang.Expr, tests [][]lang.Test) {
	var add func(l []lang.Expr)
	add = func(l []lang.Expr) {
		terms = append(terms, l)
		for _, e := range l {
			add(e.L)
		}
	}
	for _, e := range g.Edges {
		add(e.Act.Args)
		tests = append(tests, e.Act.Tests)
		for _, x := range e.Act.Tests {
			add(x.A.L)
			add(x.B.L)
		}
	}
	return terms, tests
}

// P4: a graph is new memory: no two of its lists share any, and none is the program's.
func TestBuildIsNew(t *testing.T) {
	programs(t, 3, 300, func(p lang.Program, g Graph, _ *rand.Rand) {
		before := told(p)
		want := text(g)
		terms, tests := lists(g)
		n := 0
		for _, l := range terms {
			for i := range l[:cap(l)] {
				n++
				l[:cap(l)][i] = num(n)
			}
		}
		for _, l := range tests {
			for i := range l[:cap(l)] {
				n++
				l[:cap(l)][i] = lang.Test{A: num(n)}
			}
		}
		n = 0
		for _, l := range terms {
			for _, e := range l[:cap(l)] {
				n++
				if e.N != n {
					t.Fatal(before)
				}
			}
		}
		for _, l := range tests {
			for _, x := range l[:cap(l)] {
				n++
				if x.A.N != n {
					t.Fatal(before)
				}
			}
		}
		for i := range g.Vars[:cap(g.Vars)] {
			g.Vars[:cap(g.Vars)][i] = "?"
		}
		for i := range g.Arrays[:cap(g.Arrays)] {
			g.Arrays[:cap(g.Arrays)][i].Name = "?"
		}
		again, err := Build(p)
		if told(p) != before || text(again) != want || err != nil {
			t.Fatal(told(p), before)
		}
	})
}

// P2: the same is answered, also side by side.
func TestSideBySide(t *testing.T) {
	type one struct {
		p    lang.Program
		g    Graph
		next []Next
		o    []int
	}
	var all []one
	programs(t, 4, 60, func(p lang.Program, g Graph, _ *rand.Rand) {
		next, err := Steps(g, 0, make([]int, len(g.Vars)), [][]int{{0, 0, 0}}, 1)
		o, wrong := Order(g)
		if err != nil || wrong != nil {
			t.Fatal(err, wrong)
		}
		all = append(all, one{p, g, next, o})
	})
	var wait sync.WaitGroup
	for range 8 {
		wait.Go(func() {
			for _, c := range all {
				g, err := Build(c.p)
				if !reflect.DeepEqual(g, c.g) || err != nil || Valid(c.g) != nil {
					t.Error(told(c.p), err)
				}
				next, err := Steps(c.g, 0, make([]int, len(g.Vars)), [][]int{{0, 0, 0}}, 1)
				if !reflect.DeepEqual(next, c.next) || err != nil {
					t.Error(told(c.p), err)
				}
				if o, err := Order(c.g); !reflect.DeepEqual(o, c.o) || err != nil {
					t.Error(told(c.p), err)
				}
			}
		})
	}
	wait.Wait()
}

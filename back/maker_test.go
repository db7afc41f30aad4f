package back

import (
	"math/big"
	"math/rand"
	"slices"
	"strconv"
	"strings"
	"testing"

	"raycone/api"
	"raycone/flow"
	"raycone/hull"
	"raycone/lang"
	"raycone/poly"
)

const declared = "var x;var y;var z;var w;var v;array a[3];array b[1];"

// built of a main that has a graph.
func built(t *testing.T, main string) flow.Graph {
	t.Helper()
	p, err := lang.Read(declared + "main{" + main + "}")
	if err != nil {
		t.Fatal(main, err)
	}
	g, err := flow.Build(p)
	if err != nil {
		t.Fatal(main, err)
	}
	return g
}

// names of the tests' programs, without edges.
func names() flow.Graph {
	return flow.Graph{Vars: []string{"x", "y", "z", "w", "v"}, Arrays: []lang.Array{{Name: "a", Size: 3}, {Name: "b", Size: 1}}, Points: 1}
}

// actOf a statement: of assume a test, of an endless loop a skip.
func actOf(t *testing.T, s string) flow.Act {
	t.Helper()
	return built(t, s).Edges[0].Act
}

// chosen names, as "xz".
func chosen(s string) hull.Choice {
	c := hull.Choice{}
	for _, r := range s {
		c = append(c, strings.IndexRune("xyzwv", r))
	}
	return c
}

// read rows, as "x0 = 5, x1 >= -1", over so many variables. "none" is nothing.
func read(dim int, s string) api.Poly {
	if s == "none" {
		s = "0 >= 1"
	}
	if s != "" {
		s = strings.ReplaceAll(s, ", ", "\n") + "\n"
	}
	p, err := poly.Read(dim, s)
	if err != nil {
		panic(s)
	}
	return p
}

// maker of things at random, over x, y, z, w, v, an array a of 3 places and b of one.
type maker struct{ *rand.Rand }

func makerOf(seed int64) maker { return maker{rand.New(rand.NewSource(seed))} }

func (m maker) one(l ...string) string { return l[m.Intn(len(l))] }

func (m maker) variable() string { return m.one("x", "y", "z", "w", "v") }

func (m maker) rel() string { return m.one("<", "<=", "==", ">", ">=") }

// of is what is chosen, of so many names at most.
func (m maker) of(most int) string {
	l := m.Perm(5)[:m.Intn(most+1)]
	slices.Sort(l)
	s := ""
	for _, n := range l {
		s += "xyzwv"[n : n+1]
	}
	return s
}

func (m maker) term() string {
	s := m.one("", "-") + strconv.Itoa(m.Intn(5))
	for range m.Intn(4) {
		s += m.one("+", "-") + m.one("", "", strconv.Itoa(m.Intn(5))+"*") + m.variable()
	}
	if m.Intn(6) == 0 {
		s += m.one("+a[0]", "*"+m.variable(), "/2", "-b[y]")
	}
	return s
}

func (m maker) row() string {
	var l []string
	for range 1 + m.Intn(3) {
		l = append(l, m.term()+m.one(m.rel(), m.rel(), "!=")+m.one(m.variable(), m.term()))
	}
	return strings.Join(l, " and ")
}

func (m maker) block(many, deep int) string {
	s := ""
	for range m.Intn(many + 1) {
		s += m.statement(deep)
	}
	return s
}

func (m maker) statement(deep int) string {
	x, y := m.variable(), m.variable()
	switch n := m.Intn(14); {
	case n < 3:
		return m.one("assert ", "assume ") + m.row() + m.one("", " or "+m.row()) + ";"
	case n < 4:
		return "read " + x + ";"
	case n < 5:
		return m.one("a", "b") + "[" + m.one("0", x) + "]=" + m.term() + ";"
	case n < 7 && deep > 0:
		return "if " + m.row() + "{" + m.block(2, deep-1) + "}else{" + m.block(2, deep-1) + "}"
	case n < 8 && deep > 0:
		return "while " + m.row() + "{" + m.block(2, deep-1) + "}"
	case n < 10 && deep > 0:
		return x + "=0;while " + x + "<" + strconv.Itoa(m.Intn(6)) + "{" + m.block(2, deep-1) + x + "=" + x + "+1;}"
	case n < 12:
		return x + "=" + y + m.one("+", "-") + strconv.Itoa(m.Intn(4)) + ";"
	}
	return x + "=" + m.term() + ";"
}

// act at random.
func (m maker) act(t *testing.T) flow.Act {
	x := m.variable()
	switch m.Intn(9) {
	case 0:
		return flow.Act{Kind: "skip"}
	case 1:
		return flow.Act{Kind: "read", Name: x}
	case 2, 3, 4:
		return actOf(t, x+"="+m.term()+";")
	case 5:
		return actOf(t, m.one("a", "b")+"["+m.one(x, "1")+"]="+m.term()+";")
	}
	a := actOf(t, "assume "+m.row()+";")
	a.Kind = m.one("test", "fail")
	return a
}

// graph at random, of a program, or with edges anywhere.
func (m maker) graph(t *testing.T) flow.Graph {
	if m.Intn(3) == 0 {
		p, err := lang.Read(declared + "main{" + m.block(5, 2) + "}")
		if err != nil {
			t.Fatal(err)
		}
		if g, err := flow.Build(p); err == nil && flow.Valid(g) == nil {
			return g
		}
	}
	g := names()
	g.Points = 1 + m.Intn(7)
	for range m.Intn(3 * g.Points) {
		g.Edges = append(g.Edges, flow.Edge{From: m.Intn(g.Points), To: m.Intn(g.Points), Act: m.act(t)})
	}
	return g
}

// around points: a polyhedron that has them, by rows at random that touch one of them or not; not in form.
func (m maker) around(dim int, points [][]int) api.Poly {
	p := api.Poly{Dim: dim}
	for range m.Intn(8) {
		r := api.Row{Eq: m.Intn(5) == 0, A: make([]int, dim)}
		for range 1 + m.Intn(3) {
			if dim > 0 {
				r.A[m.Intn(dim)] = m.Intn(7) - 3
			}
		}
		least, most := 1<<40, -1<<40
		for _, x := range points {
			sum := 0
			for i, n := range x {
				sum += n * r.A[i]
			}
			least, most = min(least, sum), max(most, sum)
		}
		if r.B = least; least < most {
			r.Eq = false
			r.B -= m.Intn(3)
		}
		p.Rows = append(p.Rows, r)
	}
	return p
}

// state that has a few points at random, most often the zeros.
func (m maker) state(dim int) api.Poly {
	var points [][]int
	for range 1 + m.Intn(3) {
		x := make([]int, dim)
		for i := range x {
			x[i] = m.Intn(9) - 4
		}
		points = append(points, x)
	}
	if m.Intn(4) > 0 {
		points = append(points, make([]int, dim))
	}
	return m.around(dim, points)
}

// values of variables, of the places of arrays, and what is read.
type values struct {
	vars   []int
	arrays [][]int
	input  int
}

func (m maker) number() int {
	if m.Intn(12) == 0 {
		return m.Intn(1<<20) - 1<<19
	}
	return m.Intn(9) - 4
}

func (m maker) values() values {
	n := m.number
	return values{[]int{n(), n(), n(), n(), n()}, [][]int{{n(), n(), n()}, {n()}}, n()}
}

// picked values: those of the chosen variables.
func picked(c hull.Choice, vars []int) []int {
	p := make([]int, len(c))
	for i, n := range c {
		p[i] = vars[n]
	}
	return p
}

// has a polyhedron this point of whole numbers?
func has(t *testing.T, p api.Poly, x []int) bool {
	t.Helper()
	for _, n := range x {
		if n < -api.MaxEntry || n > api.MaxEntry {
			return hasGreat(p, x)
		}
	}
	in, err := poly.Has(p, api.Point{X: x, Den: 1})
	if err != nil {
		t.Fatal(p, x, err)
	}
	return in
}

// hasGreat numbers, which poly.Has does not take.
func hasGreat(p api.Poly, x []int) bool {
	for _, r := range p.Rows {
		sum := new(big.Int).Neg(big.NewInt(int64(r.B)))
		for i, n := range r.A {
			sum.Add(sum, new(big.Int).Mul(big.NewInt(int64(n)), big.NewInt(int64(x[i]))))
		}
		if sum.Sign() < 0 || r.Eq && sum.Sign() != 0 {
			return false
		}
	}
	return true
}

// stop of a walk: a point, what the variables are there, and the edge that led there (-1: none).
type stop struct {
	at   int
	vars []int
	by   int
}

// walk at random from point 0, all 0.
func (m maker) walk(t *testing.T, g flow.Graph, most int) []stop {
	t.Helper()
	last := stop{0, make([]int, len(g.Vars)), -1}
	arrays := make([][]int, len(g.Arrays))
	for i, a := range g.Arrays {
		arrays[i] = make([]int, a.Size)
	}
	var l []stop
	for range most {
		l = append(l, last)
		next, err := flow.Steps(g, last.at, last.vars, arrays, m.number())
		if err != nil {
			t.Fatal(err)
		}
		if len(next) == 0 {
			break
		}
		n := next[m.Intn(len(next))]
		last, arrays = stop{n.To, n.Vars, n.Edge}, n.Arrays
	}
	return l
}

func same(p, q api.Poly) bool {
	return p.Dim == q.Dim && slices.EqualFunc(p.Rows, q.Rows, func(a, b api.Row) bool { return a.Eq == b.Eq && a.B == b.B && slices.Equal(a.A, b.A) })
}

func isZero(p api.Poly) bool { return p.Dim == 0 && len(p.Rows) == 0 }

// isForm: as answers are.
func isForm(t *testing.T, p api.Poly) bool {
	t.Helper()
	form, err := poly.Form(p)
	if err != nil {
		t.Fatal(p, err)
	}
	return same(p, form)
}

// formed: read, in form.
func formed(dim int, s string) api.Poly {
	p, err := poly.Form(read(dim, s))
	if err != nil {
		panic(s)
	}
	return p
}

// said in rows.
func said(t *testing.T, l ...api.Poly) string {
	t.Helper()
	var all []string
	for _, p := range l {
		s, err := poly.Text(p)
		if err != nil {
			t.Fatal(err)
		}
		all = append(all, strings.ReplaceAll(strings.TrimSuffix(s, "\n"), "\n", ", "))
	}
	return strings.Join(all, " | ")
}

// sumText of a row over x, y, z, w and v, as a term.
func sumText(r api.Row) string {
	s := "0"
	for i, n := range r.A {
		if s += "+"; n < 0 {
			s = strings.TrimSuffix(s, "+")
		}
		s += strconv.Itoa(n) + "*" + "xyzwv"[i:i+1]
	}
	return s
}

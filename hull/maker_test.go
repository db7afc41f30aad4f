package hull

import (
	"math/big"
	"math/rand"
	"slices"
	"strconv"
	"strings"
	"testing"

	"raycone/api"
	"raycone/flow"
	"raycone/lang"
	"raycone/poly"
)

// maker of things at random, over x, y, z, w, v, an array a of 3 places and b of one.
type maker struct{ *rand.Rand }

func makerOf(seed int64) maker { return maker{rand.New(rand.NewSource(seed))} }

func (m maker) one(l ...string) string { return l[m.Intn(len(l))] }

func (m maker) variable() string { return m.one("x", "y", "z", "w", "v") }

func (m maker) rel() string { return m.one("<", "<=", "==", ">", ">=") }

// of is what is chosen, of so many names at most.
func (m maker) of(most int) string {
	l := m.Perm(5)[:m.Intn(most+1)]
	slices.Sort(l)
	s := ""
	for _, n := range l {
		s += "xyzwv"[n : n+1]
	}
	return s
}

// sum of names, of which there are some, with numbers up to most.
func (m maker) sum(of string, most int) string {
	s := m.one("", "-") + strconv.Itoa(m.Intn(most+1))
	for range m.Intn(4) {
		x := m.Intn(len(of))
		times := m.one("", "", strconv.Itoa(m.Intn(most+1))+"*")
		s += m.one("+", "-") + times + of[x:x+1]
	}
	return s
}

func (m maker) term() string {
	x, y, n := m.variable(), m.variable(), strconv.Itoa(m.Intn(5))
	switch m.Intn(10) {
	case 0:
		return m.one("a", "b") + "[" + m.one(x, n) + "]"
	case 1:
		return m.one(x, n) + m.one("*", "/", "%") + m.one(y, n)
	case 2:
		return "-(" + m.sum("xyzwv", 4) + ")*" + m.one(x, n)
	}
	return m.sum("xyzwv", 4)
}

func (m maker) row() string {
	if m.Intn(12) == 0 {
		return "true"
	}
	var l []string
	for range 1 + m.Intn(3) {
		l = append(l, m.term()+m.one(m.rel(), m.rel(), "!=")+m.one(m.variable(), m.term()))
	}
	return strings.Join(l, " and ")
}

func (m maker) cond() string {
	switch m.Intn(6) {
	case 0:
		return m.one("false", m.row()+" or "+m.row())
	case 1:
		return m.row() + " or " + m.row()
	}
	return m.row()
}

func (m maker) block(many, deep int) string {
	s := ""
	for range m.Intn(many + 1) {
		s += m.statement(deep)
	}
	return s
}

func (m maker) statement(deep int) string {
	x, y := m.variable(), m.variable()
	switch n := m.Intn(18); {
	case n < 2:
		return m.one("assert ", "assume ") + m.cond() + ";"
	case n < 4:
		return m.one("assert ", "assert ", "assume ") + x + m.one(m.rel(), "!=") + y + "+" + strconv.Itoa(m.Intn(4)) + ";"
	case n < 5:
		return "read " + x + ";"
	case n < 6:
		return m.one("a", "b") + "[" + m.one("0", "1", x) + "]=" + m.term() + ";"
	case n < 8 && deep > 0:
		return "if " + m.cond() + "{" + m.block(2, deep-1) + "}" + m.one("", "else{"+m.block(2, deep-1)+"}")
	case n < 9 && deep > 0:
		return "while " + m.cond() + "{" + m.block(2, deep-1) + "}"
	case n < 11 && deep > 0:
		return x + "=0;while " + x + "<" + strconv.Itoa(m.Intn(6)) + "{" + m.block(2, deep-1) + x + "=" + x + "+1;}"
	case n < 14:
		return x + "=" + y + m.one("+", "-") + strconv.Itoa(m.Intn(4)) + ";"
	}
	return x + "=" + m.term() + ";"
}

// graphs of programs at random.
func (m maker) graphs(t *testing.T, many int, see func(p lang.Program, g flow.Graph)) {
	t.Helper()
	for n := 0; n < many; {
		p, err := lang.Read(declared + "main{" + m.block(7, 3) + "}")
		if err != nil {
			t.Fatal(err)
		}
		g, err := flow.Build(p)
		switch {
		case err == nil && flow.Valid(g) == nil:
			n++
			see(p, g)
		case err != nil && err != api.ErrBound:
			t.Fatal(err)
		}
	}
}

// act at random.
func (m maker) act(t *testing.T) flow.Act {
	x := m.variable()
	switch m.Intn(10) {
	case 0:
		return flow.Act{Kind: "skip"}
	case 1:
		return flow.Act{Kind: "read", Name: x}
	case 2, 3, 4:
		return actOf(t, x+"="+m.term()+";")
	case 5:
		return actOf(t, m.one("a", "b")+"["+m.one(x, "1")+"]="+m.term()+";")
	}
	a := actOf(t, "assume "+m.row()+";")
	a.Kind = m.one("test", "fail")
	return a
}

// wild graph: edges anywhere, heads that are none, points to which nothing leads.
func (m maker) wild(t *testing.T) flow.Graph {
	g := names()
	g.Points = 1 + m.Intn(9)
	for range m.Intn(3 * g.Points) {
		g.Edges = append(g.Edges, flow.Edge{From: m.Intn(g.Points), To: m.Intn(g.Points), Act: m.act(t)})
	}
	for range m.Intn(3) {
		g.Heads = append(g.Heads, m.Intn(g.Points))
	}
	return g
}

// values of variables, of the places of arrays, and what is read.
type values struct {
	vars   []int
	arrays [][]int
	input  int
}

func (m maker) number() int {
	if m.Intn(12) == 0 {
		return m.Intn(1<<20) - 1<<19
	}
	return m.Intn(9) - 4
}

func (m maker) values() values {
	n := m.number
	return values{[]int{n(), n(), n(), n(), n()}, [][]int{{n(), n(), n()}, {n()}}, n()}
}

// picked values: those of the chosen variables.
func picked(c Choice, vars []int) []int {
	p := make([]int, len(c))
	for i, n := range c {
		p[i] = vars[n]
	}
	return p
}

// around points: a polyhedron that has them, by rows at random that touch one of them or not.
func (m maker) around(dim int, points [][]int) api.Poly {
	p := api.Poly{Dim: dim}
	for range m.Intn(8) {
		r := api.Row{Eq: m.Intn(5) == 0, A: make([]int, dim)}
		for range 1 + m.Intn(3) {
			if dim > 0 {
				r.A[m.Intn(dim)] = m.Intn(7) - 3
			}
		}
		least, most := 1<<40, -1<<40
		for _, x := range points {
			sum := 0
			for i, n := range x {
				sum += n * r.A[i]
			}
			least, most = min(least, sum), max(most, sum)
		}
		if r.B = least; least < most {
			r.Eq = false
			r.B -= m.Intn(3)
		}
		p.Rows = append(p.Rows, r)
	}
	return p
}

// state over a choice, and values that it has.
func (m maker) state(c Choice) (api.Poly, []values) {
	var l []values
	var points [][]int
	for range 1 + m.Intn(4) {
		v := m.values()
		l, points = append(l, v), append(points, picked(c, v.vars))
	}
	return m.around(len(c), points), l
}

// has a state these values of all variables?
func has(t *testing.T, c Choice, p api.Poly, vars []int) bool {
	t.Helper()
	for _, n := range vars {
		if n < -api.MaxEntry || n > api.MaxEntry {
			return hasGreat(p, picked(c, vars))
		}
	}
	in, err := poly.Has(p, api.Point{X: picked(c, vars), Den: 1})
	if err != nil {
		t.Fatal(p, vars, err)
	}
	return in
}

// hasGreat numbers, which poly.Has does not take.
func hasGreat(p api.Poly, x []int) bool {
	for _, r := range p.Rows {
		sum := new(big.Int).Neg(big.NewInt(int64(r.B)))
		for i, n := range r.A {
			sum.Add(sum, new(big.Int).Mul(big.NewInt(int64(n)), big.NewInt(int64(x[i]))))
		}
		if sum.Sign() < 0 || r.Eq && sum.Sign() != 0 {
			return false
		}
	}
	return true
}

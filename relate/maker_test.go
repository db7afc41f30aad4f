package relate

import (
	"math/rand"
	"slices"
	"strconv"
	"strings"
	"testing"

	"raycone/api"
	"raycone/flow"
	"raycone/lang"
	"raycone/octagon"
)

// maker of things at random, over x, y, z, w, an array a of 3 places and b of one.
type maker struct{ *rand.Rand }

func (m maker) one(l ...string) string { return l[m.Intn(len(l))] }

func (m maker) variable() string { return m.one("x", "y", "z", "w") }

func (m maker) rel() string { return m.one("<", "<=", "==", ">", ">=") }

// of is what is chosen, of so many names at most.
func (m maker) of(most int) string {
	l := m.Perm(4)[:m.Intn(most+1)]
	slices.Sort(l)
	s := ""
	for _, n := range l {
		s += "xyzw"[n : n+1]
	}
	return s
}

func (m maker) small() string {
	return m.one(m.variable(), m.variable(), strconv.Itoa(m.Intn(5)), strconv.Itoa(m.Intn(5)), m.one("1099511627776", "1099511627775", "549755813888", "1048576", "1000"))
}

func (m maker) term(deep int) string {
	if deep == 0 {
		return m.small()
	}
	switch m.Intn(9) {
	case 0:
		return m.one("a", "b") + "[" + m.term(deep-1) + "]"
	case 1:
		return "-" + m.one(m.small(), "("+m.term(deep-1)+")")
	case 2:
		return m.small()
	case 3, 4:
		return "(" + m.term(deep-1) + ")" + m.one("+", "-") + strconv.Itoa(m.Intn(5))
	}
	return "(" + m.term(deep-1) + ")" + m.one("+", "-", "+", "-", "*", "/", "%") + "(" + m.term(deep-1) + ")"
}

func (m maker) row(deep int) string {
	var l []string
	for range 1 + m.Intn(3) {
		l = append(l, m.term(m.Intn(deep+1))+m.one(m.rel(), "!=")+m.term(m.Intn(deep+1)))
	}
	if m.Intn(12) == 0 {
		return "true"
	}
	return strings.Join(l, " and ")
}

func (m maker) cond() string {
	switch m.Intn(6) {
	case 0:
		return m.one("false", m.row(1)+" or "+m.row(1))
	case 1:
		return m.row(1) + " or " + m.row(1)
	}
	return m.row(1)
}

func (m maker) block(many, deep int) string {
	s := ""
	for range m.Intn(many + 1) {
		s += m.statement(deep)
	}
	return s
}

func (m maker) statement(deep int) string {
	x, y := m.variable(), m.variable()
	switch n := m.Intn(18); {
	case n < 2:
		return m.one("assert ", "assume ") + m.cond() + ";"
	case n < 4:
		return m.one("assert ", "assert ", "assume ") + x + m.one(m.rel(), "!=") + y + "+" + strconv.Itoa(m.Intn(4)) + ";"
	case n < 5:
		return "read " + x + ";"
	case n < 6:
		return m.one("a", "b") + "[" + m.one("0", "1", x) + "]=" + m.term(1) + ";"
	case n < 8 && deep > 0:
		return "if " + m.cond() + "{" + m.block(2, deep-1) + "}" + m.one("", "else{"+m.block(2, deep-1)+"}")
	case n < 9 && deep > 0:
		return "while " + m.cond() + "{" + m.block(2, deep-1) + "}"
	case n < 11 && deep > 0:
		return x + "=0;while " + x + "<" + strconv.Itoa(m.Intn(6)) + "{" + m.block(2, deep-1) + x + "=" + x + "+1;}"
	case n < 14:
		return x + "=" + y + m.one("+", "-") + strconv.Itoa(m.Intn(4)) + ";"
	}
	return x + "=" + m.term(1) + ";"
}

// graphs of programs at random.
func (m maker) graphs(t *testing.T, many int, see func(p lang.Program, g flow.Graph)) {
	t.Helper()
	for n := 0; n < many; {
		p, err := lang.Read(declared + "main{" + m.block(7, 3) + "}")
		if err != nil {
			t.Fatal(err)
		}
		g, err := flow.Build(p)
		switch {
		case err == nil && flow.Valid(g) == nil:
			n++
			see(p, g)
		case err != nil && err != api.ErrBound:
			t.Fatal(err)
		}
	}
}

// act at random.
func (m maker) act(t *testing.T) flow.Act {
	x := m.variable()
	switch m.Intn(10) {
	case 0:
		return flow.Act{Kind: "skip"}
	case 1:
		return flow.Act{Kind: "read", Name: x}
	case 2:
		return actOf(t, x+"="+m.variable()+m.one("+", "-")+strconv.Itoa(m.Intn(4))+";")
	case 3, 4:
		return actOf(t, x+"="+m.term(3)+";")
	case 5:
		return actOf(t, m.one("a", "b")+"["+m.term(m.Intn(2))+"]="+m.term(2)+";")
	}
	a := actOf(t, "assume "+m.row(2)+";")
	a.Kind = m.one("test", "fail")
	return a
}

// wild graph: edges anywhere, heads that are none, points to which nothing leads.
func (m maker) wild(t *testing.T) flow.Graph {
	g := names()
	g.Points = 1 + m.Intn(9)
	for range m.Intn(3 * g.Points) {
		g.Edges = append(g.Edges, flow.Edge{From: m.Intn(g.Points), To: m.Intn(g.Points), Act: m.act(t)})
	}
	for range m.Intn(3) {
		g.Heads = append(g.Heads, m.Intn(g.Points))
	}
	return g
}

// number near one that counts.
func (m maker) number() int {
	n := []int{0, 0, 0, 0, 0, 0, most, -most, most / 2, 1 << 20}[m.Intn(10)] + m.Intn(9) - 4
	return max(-most, min(most, n))
}

// values of variables, of the places of arrays, and what is read.
type values struct {
	vars   []int
	arrays [][]int
	input  int
}

func (m maker) values() values {
	n := func() int { return m.number() }
	if m.Intn(2) == 0 {
		n = func() int { return m.Intn(7) - 3 }
	}
	return values{[]int{n(), n(), n(), n()}, [][]int{{n(), n(), n()}, {n()}}, m.number()}
}

// picked values: those of the chosen variables.
func picked(c Choice, vars []int) []int {
	p := make([]int, len(c))
	for i, n := range c {
		p[i] = vars[n]
	}
	return p
}

// leastOf points, of which there are some: each cell is the most that is reached, as far as it can be told.
func leastOf(n int, points [][]int) octagon.Octagon {
	o := flat(n)
	size := 2 * n
	for k := range o.L {
		far := -1 << 62
		for _, p := range points {
			at := func(i int) int { return p[i/2] * (1 - 2*(i%2)) }
			far = max(far, at(k%size)-at(k/size))
		}
		if far <= most {
			o.L[k] = octagon.Cell{Has: true, Most: max(far, -most)}
		}
	}
	return o
}

// around points: an octagon that has them, and more.
func (m maker) around(n int, points [][]int) octagon.Octagon {
	o := leastOf(n, points)
	few := 1 + m.Intn(6)
	for k := range o.L {
		if m.Intn(few) > 0 {
			continue
		}
		c := octagon.Cell{}
		if far := o.L[k].Most + m.Intn(3); o.L[k].Has && far <= most && m.Intn(2) == 0 {
			c = octagon.Cell{Has: true, Most: far}
		}
		size := 2 * n
		o.L[k], o.L[(k%size^1)*size+(k/size^1)] = c, c
	}
	return o
}

// state over a choice, and values that it has.
func (m maker) state(c Choice) (State, []values) {
	var l []values
	var points [][]int
	for range 1 + m.Intn(4) {
		v := m.values()
		l, points = append(l, v), append(points, picked(c, v.vars))
	}
	return State{Oct: m.around(len(c), points)}, l
}

// has a state these values of all variables?
func has(t *testing.T, c Choice, s State, vars []int) bool {
	t.Helper()
	if s.None {
		return false
	}
	in, err := octagon.Has(s.Oct, picked(c, vars))
	if err != nil {
		t.Fatal(s, vars, err)
	}
	return in
}

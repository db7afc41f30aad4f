package scan

import (
	"math/rand"
	"strconv"
	"strings"
	"testing"

	"raycone/api"
	"raycone/flow"
	"raycone/lang"
)

// maker of things at random, with x, y, z, an array a of 3 places and b of one.
type maker struct{ *rand.Rand }

func (m maker) one(l ...string) string { return l[m.Intn(len(l))] }

func (m maker) small() string { return m.one("x", "y", "z", strconv.Itoa(m.Intn(5))) }

// great numbers: near the edge, and near its root.
func (m maker) great() string {
	return strconv.Itoa([]int{most, most - 1, most - 2, 1 << 20, 1<<20 + 1, most / 2}[m.Intn(6)])
}

func (m maker) term(deep int) string {
	if deep == 0 {
		return m.small()
	}
	switch m.Intn(9) {
	case 0:
		return m.one("a", "b") + "[" + m.term(deep-1) + "]"
	case 1:
		return "-" + m.one(m.small(), "("+m.term(deep-1)+")")
	case 2:
		return m.small()
	case 3:
		return m.great()
	}
	return "(" + m.term(deep-1) + ")" + m.one("+", "-", "*", "/", "%") + "(" + m.term(deep-1) + ")"
}

func (m maker) row(deep int) string {
	var l []string
	for range 1 + m.Intn(3) {
		l = append(l, m.term(m.Intn(deep+1))+m.one("<", "<=", "==", "!=", ">", ">=")+m.term(m.Intn(deep+1)))
	}
	if m.Intn(12) == 0 {
		return "true"
	}
	return strings.Join(l, " and ")
}

func (m maker) cond() string {
	switch m.Intn(6) {
	case 0:
		return m.one("false", m.row(1)+" or "+m.row(1))
	case 1:
		return m.row(1) + " or " + m.row(1)
	}
	return m.row(1)
}

func (m maker) block(many, deep int) string {
	s := ""
	for range m.Intn(many + 1) {
		s += m.statement(deep)
	}
	return s
}

func (m maker) statement(deep int) string {
	x := m.one("x", "y", "z")
	switch n := m.Intn(16); {
	case n < 2:
		return m.one("assert ", "assume ") + m.cond() + ";"
	case n < 3:
		return "assert " + m.one(x, "a[0]", "b[0]") + m.one("<", ">", "!=") + strconv.Itoa(m.Intn(9)-2) + ";"
	case n < 4:
		return "read " + x + ";"
	case n < 6:
		return m.one("a", "b") + "[" + m.one("0", "1", x) + "]=" + m.term(1) + ";"
	case n < 8 && deep > 0:
		return "if " + m.cond() + "{" + m.block(2, deep-1) + "}" + m.one("", "else{"+m.block(2, deep-1)+"}")
	case n < 9 && deep > 0:
		return "while " + m.cond() + "{" + m.block(2, deep-1) + "}"
	case n < 11 && deep > 0:
		return x + "=0;while " + x + "<" + strconv.Itoa(m.Intn(6)) + "{" + m.block(2, deep-1) + x + "=" + x + "+1;}"
	}
	return x + "=" + m.term(1) + ";"
}

// program at random, of so many statements in main at most.
func (m maker) program(many int) string {
	return "var x;var y;var z;array a[3];array b[1];main{" + m.block(many, 3) + "}"
}

// graphs of programs at random.
func (m maker) graphs(t *testing.T, many int, see func(p lang.Program, g flow.Graph)) {
	t.Helper()
	for n := 0; n < many; {
		p, err := lang.Read(m.program(6))
		if err != nil {
			t.Fatal(err)
		}
		g, err := flow.Build(p)
		switch {
		case err == nil && flow.Valid(g) == nil:
			n++
			see(p, g)
		case err != nil && err != api.ErrBound:
			t.Fatal(err)
		}
	}
}

// act at random.
func (m maker) act(t *testing.T) flow.Act {
	x := m.one("x", "y", "z")
	switch m.Intn(9) {
	case 0:
		return flow.Act{Kind: "skip"}
	case 1:
		return flow.Act{Kind: "read", Name: x}
	case 2, 3:
		return actOf(t, x+"="+m.term(3)+";")
	case 4:
		return actOf(t, m.one("a", "b")+"["+m.term(m.Intn(2))+"]="+m.term(2)+";")
	}
	a := actOf(t, "assume "+m.row(2)+";")
	a.Kind = m.one("test", "fail")
	return a
}

// wild graph: edges anywhere, heads that are none, points to which nothing leads.
func (m maker) wild(t *testing.T) flow.Graph {
	g := names()
	g.Points = 1 + m.Intn(9)
	for range m.Intn(3 * g.Points) {
		g.Edges = append(g.Edges, flow.Edge{From: m.Intn(g.Points), To: m.Intn(g.Points), Act: m.act(t)})
	}
	for range m.Intn(3) {
		g.Heads = append(g.Heads, m.Intn(g.Points))
	}
	return g
}

// number near one that counts.
func (m maker) number() int {
	n := []int{0, 0, 0, 0, 0, most, -most, 1 << 20, -1 << 20}[m.Intn(9)] + m.Intn(9) - 4
	return max(-most, min(most, n))
}

func (m maker) interval() api.Interval {
	low, high := m.number(), m.number()
	if m.Intn(2) == 0 {
		low = m.Intn(7) - 3
		high = low + m.Intn(4)
	}
	a := api.Interval{Low: min(low, high), High: max(low, high)}
	if m.Intn(9) == 0 {
		a.Down, a.Low = true, 0
	}
	if m.Intn(9) == 0 {
		a.Up, a.High = true, 0
	}
	return a
}

func (m maker) state() State {
	var s State
	for range 3 {
		s.Vars = append(s.Vars, m.interval())
	}
	for range 2 {
		s.Arrays = append(s.Arrays, m.interval())
	}
	return s
}

// of an interval one number that a program can have.
func (m maker) of(a api.Interval) int {
	low, high := a.Low, a.High
	if a.Down {
		low = -most
	}
	if a.Up {
		high = most
	}
	switch m.Intn(6) {
	case 0:
		return low
	case 1:
		return high
	case 2:
		return max(low, min(high, m.number()))
	case 3:
		return low + m.Intn(high-low+1)
	}
	return max(low, min(high, m.Intn(9)-4))
}

// values that a state has.
func (m maker) values(s State) ([]int, [][]int) {
	vars := []int{m.of(s.Vars[0]), m.of(s.Vars[1]), m.of(s.Vars[2])}
	one := s.Arrays[0]
	return vars, [][]int{{m.of(one), m.of(one), m.of(one)}, {m.of(s.Arrays[1])}}
}

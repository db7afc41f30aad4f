package rank

import (
	"math/big"
	"math/rand"
	"strconv"
	"strings"
	"testing"

	"raycone/api"
	"raycone/farkas"
	"raycone/flow"
	"raycone/hull"
	"raycone/lang"
	"raycone/poly"
)

// read rows, as "x0 = 5, x1 >= -1", over so many variables.
func read(dim int, s string) api.Poly {
	if s != "" {
		s = strings.ReplaceAll(s, ", ", "\n") + "\n"
	}
	p, err := poly.Read(dim, s)
	if err != nil {
		panic(s)
	}
	return p
}

// loop of so many variables: with two x0 and x1 are ahead of a round, x2 and x3 behind it.
func loop(dim int, s string) Loop { return Loop{Dim: dim, Rows: read(2*dim, s).Rows} }

// said in rows.
func said(t *testing.T, l ...Loop) string {
	t.Helper()
	var all []string
	for _, one := range l {
		s, err := poly.Text(one.poly())
		if err != nil {
			t.Fatal(err)
		}
		all = append(all, strings.ReplaceAll(strings.TrimSuffix(s, "\n"), "\n", ", "))
	}
	return strings.Join(all, " | ")
}

// formed: as answers are.
func formed(t *testing.T, l Loop) Loop {
	t.Helper()
	form, err := poly.Form(l.poly())
	if err != nil {
		t.Fatal(err)
	}
	return Loop{l.Dim, form.Rows}
}

// built of a main over x, y and z that has a graph.
func built(t *testing.T, main string) flow.Graph {
	t.Helper()
	p, err := lang.Read("var x;var y;var z;array a[3];main{" + main + "}")
	if err != nil {
		t.Fatal(main, err)
	}
	g, err := flow.Build(p)
	if err != nil {
		t.Fatal(main, err)
	}
	return g
}

// actOf a statement: of assume a test, of an endless loop a skip.
func actOf(t *testing.T, s string) flow.Act {
	t.Helper()
	return built(t, s).Edges[0].Act
}

// scanned table.
func scanned(t *testing.T, g flow.Graph, c hull.Choice) []api.Poly {
	t.Helper()
	table, err := hull.Scan(g, c)
	if err != nil {
		t.Fatal(g, err)
	}
	return table
}

// everything at each point.
func everything(g flow.Graph, c hull.Choice) []api.Poly {
	table := make([]api.Poly, g.Points)
	for i := range table {
		table[i].Dim = len(c)
	}
	return table
}

// isRank tells by what makes the rounds, if that can be told, whether F is nowhere below Low, and falls by Fall at least.
func isRank(t *testing.T, l Loop, r Rank) bool {
	t.Helper()
	g, err := poly.Generate(l.poly())
	if err == api.ErrBound {
		return isProved(l, r)
	}
	if err != nil {
		t.Fatal(l, err)
	}
	// at: F of so many numbers from one on.
	at := func(x []int, from int) *big.Int {
		sum := new(big.Int)
		for i, n := range r.F {
			sum.Add(sum, new(big.Int).Mul(big.NewInt(int64(n)), big.NewInt(int64(x[from+i]))))
		}
		return sum
	}
	reaches := func(x []int, den int) bool {
		low, step := at(x, 0), at(x, 0)
		step.Sub(step, at(x, l.Dim))
		times := func(n int) *big.Int { return new(big.Int).Mul(big.NewInt(int64(n)), big.NewInt(int64(den))) }
		return low.Cmp(times(r.Low)) >= 0 && step.Cmp(times(r.Fall)) >= 0
	}
	for _, x := range g.Points {
		if !reaches(x.X, x.Den) {
			return false
		}
	}
	for _, x := range g.Rays {
		if !reaches(x, 0) {
			return false
		}
	}
	for _, x := range g.Lines {
		if at(x, 0).Sign() != 0 || at(x, l.Dim).Sign() != 0 {
			return false
		}
	}
	return true
}

// proves tells by the words of P50 whether f proves the row.
func proves(l Loop, r api.Row, f farkas.Proof) bool {
	w := make([]*big.Int, 2*l.Dim+1)
	for i := range w {
		w[i] = new(big.Int)
	}
	add := func(row api.Row, weight int) {
		for i, n := range append(row.A[:2*l.Dim:2*l.Dim], row.B) {
			w[i].Add(w[i], new(big.Int).Mul(big.NewInt(int64(n)), big.NewInt(int64(weight))))
		}
	}
	isBare := func() bool {
		for _, n := range w[:2*l.Dim] {
			if n.Sign() != 0 {
				return false
			}
		}
		return true
	}
	for i, row := range l.Rows {
		if f.Weights[i] < 0 && !row.Eq {
			return false
		}
		add(row, f.Weights[i])
	}
	nothing := isBare() && w[2*l.Dim].Sign() > 0
	add(r, -f.Den)
	return nothing || isBare() && w[2*l.Dim].Sign() >= 0
}

// isProved tells by the words of P191 whether both proofs are right.
func isProved(l Loop, r Rank) bool {
	low, fall := api.Row{B: r.Low}, api.Row{B: r.Fall}
	for _, n := range r.F {
		low.A, fall.A = append(low.A, n), append(fall.A, n)
	}
	for _, n := range r.F {
		low.A, fall.A = append(low.A, 0), append(fall.A, -n)
	}
	return proves(l, low, r.A) && proves(l, fall, r.B)
}

// isRight: a rank as Find must tell it.
func isRight(t *testing.T, l Loop, r Rank) {
	t.Helper()
	if len(r.F) != l.Dim || r.Fall < 1 || !isRank(t, l, r) || !isProved(l, r) {
		t.Fatal(said(t, l), r)
	}
	for _, n := range append(r.F, r.Low, r.Fall) {
		if n > api.MaxEntry || n < -api.MaxEntry {
			t.Fatal(said(t, l), r)
		}
	}
	if ok, err := Check(l, r); !ok || err != nil {
		t.Fatal(said(t, l), r, ok, err)
	}
}

// maker of things at random.
type maker struct{ *rand.Rand }

func makerOf(seed int64) maker { return maker{rand.New(rand.NewSource(seed))} }

func (m maker) one(l ...string) string { return l[m.Intn(len(l))] }

func (m maker) number(size int) int { return m.Intn(2*size+1) - size }

// row over both sides of a round, all of it, or only what is ahead, or one step.
func (m maker) row(dim, size int) api.Row {
	r := api.Row{Eq: m.Intn(5) == 0, A: make([]int, 2*dim), B: m.number(size)}
	kind := m.Intn(4)
	for i := range dim {
		r.A[i] = m.number(size)
		switch kind {
		case 0:
			r.A[dim+i] = m.number(size)
		case 1, 2:
			r.A[dim+i] = -r.A[i]
		}
	}
	return r
}

// loop at random, of numbers up to a size.
func (m maker) loop(size, rows int) Loop {
	l := Loop{Dim: 1 + m.Intn(2)}
	for range m.Intn(rows + 1) {
		r := m.row(l.Dim, size)
		if m.Intn(2) == 0 {
			r.B = -m.Intn(size + 1)
		}
		l.Rows = append(l.Rows, r)
	}
	return l
}

func (m maker) term() string {
	s := strconv.Itoa(m.number(3))
	for range m.Intn(3) {
		s += m.one("+", "-") + m.one("", "", "2*", "3*") + m.one("x", "y")
	}
	return s
}

// act at random, linear over x and y, without reading.
func (m maker) act() string {
	switch m.Intn(6) {
	case 0:
		return m.one("z=x*y;", "read z;", "while true{}")
	case 1, 2:
		return "assume " + m.term() + m.one("<", "<=", "==", ">", ">=") + m.term() + ";"
	}
	x := m.one("x", "y")
	return x + "=" + m.one(x+"+"+m.term(), m.term()) + ";"
}

package proof

import (
	"math"
	"math/big"
	"slices"
	"testing"

	"raycone/api"
	"raycone/farkas"
	"raycone/flow"
	"raycone/hull"
)

func by(den int, weights ...int) farkas.Proof { return farkas.Proof{Weights: weights, Den: den} }

// both ways of rows: of one with Eq as it is, then turned.
func both(p api.Poly) []api.Row {
	var l []api.Row
	for _, r := range p.Rows {
		l = append(l, api.Row{A: r.A, B: r.B})
		if r.Eq {
			other := api.Row{B: -r.B}
			for _, n := range r.A {
				other.A = append(other.A, -n)
			}
			l = append(l, other)
		}
	}
	return l
}

// start: all variables are 0, row by row.
func start(dim int) api.Poly {
	p := api.Poly{Dim: dim}
	for x := range dim {
		r := api.Row{Eq: true, A: make([]int, dim)}
		r.A[x] = 1
		p.Rows = append(p.Rows, r)
	}
	return p
}

// isProof by the words of P50.
func isProof(p api.Poly, r api.Row, f farkas.Proof) bool {
	if f.Den < 1 || len(f.Weights) != len(p.Rows) {
		return false
	}
	sum := make([]*big.Int, p.Dim+1)
	for i := range sum {
		sum[i] = new(big.Int)
	}
	add := func(row api.Row, weight *big.Int) {
		for i, n := range append(slices.Clone(row.A), row.B) {
			sum[i].Add(sum[i], new(big.Int).Mul(big.NewInt(int64(n)), weight))
		}
	}
	isBare := func() bool {
		return !slices.ContainsFunc(sum[:p.Dim], func(n *big.Int) bool { return n.Sign() != 0 })
	}
	for i, row := range p.Rows {
		if f.Weights[i] < 0 && !row.Eq {
			return false
		}
		add(row, big.NewInt(int64(f.Weights[i])))
	}
	if isBare() && sum[p.Dim].Sign() > 0 {
		return true
	}
	add(r, new(big.Int).Neg(big.NewInt(int64(f.Den))))
	return isBare() && sum[p.Dim].Sign() >= 0
}

// areProofs of both ways of the rows of q.
func areProofs(p, q api.Poly, l []farkas.Proof) bool {
	rows := both(q)
	for i, r := range rows {
		if len(l) != len(rows) || !isProof(p, r, l[i]) {
			return false
		}
	}
	return len(l) == len(rows)
}

// unproved: the first edge of which not all is proved; -2: First; -1: there is none.
func unproved(t *testing.T, g flow.Graph, c hull.Choice, tab []api.Poly, b Book) int {
	t.Helper()
	if !areProofs(start(len(c)), tab[0], b.First) {
		return -2
	}
	for i, e := range g.Edges {
		p, err := hull.Go(g, c, tab[e.From], e.Act)
		if err != nil {
			t.Fatal(g, tab, err)
		}
		if !areProofs(p, tab[e.To], b.Edges[i]) {
			return i
		}
	}
	return -1
}

// byHand: a table of five points, over x and y, and a book of it.
func byHand(t *testing.T) (flow.Graph, hull.Choice, []api.Poly, Book) {
	t.Helper()
	g, c := built(t, "x=5;y=x;read z;assume z>=1;"), chosen("xy")
	var tab []api.Poly
	// Along the edges come x0 = 5, x1 >= 0; then x0 = 5, x1 = 5; then x0 - x1 = 0, 2 x1 >= 9; and then what is at point 3.
	for _, s := range []string{"x0 = 0, x1 >= 0", "x0 = 5, x1 >= -1", "x0 - x1 = 0, x0 + x1 >= 9", "x0 + x1 >= 8", ""} {
		tab = append(tab, read(2, s))
	}
	return g, c, tab, Book{
		First: []farkas.Proof{by(1, 1, 0), by(1, -1, 0), by(1, 0, 1)},
		Edges: [][]farkas.Proof{{by(1, 1, 0), by(1, -1, 0), by(1, 0, 1)}, {by(1, 1, -1), by(1, -1, 1), by(1, 1, 1)}, {by(1, 1, 1)}, nil},
	}
}

// P170, P171: which edge it is of which not all is proved.
func TestCheck(t *testing.T) {
	const great = math.MaxInt
	for i, c := range []struct {
		change func(tab []api.Poly, b Book)
		edge   int
		is     bool
	}{
		{func([]api.Poly, Book) {}, -1, true},
		// Other proofs that are right, too.
		{func(_ []api.Poly, b Book) { b.First[2] = by(7, 3, 7) }, -1, false},
		{func(_ []api.Poly, b Book) { b.First[2] = by(7, 0, 7) }, -1, true},
		{func(_ []api.Poly, b Book) { b.Edges[1][0] = by(3, 3, -3) }, -1, true},
		{func(_ []api.Poly, b Book) { b.Edges[2][0] = by(2, 2, 2) }, -1, true},
		// However great.
		{func(_ []api.Poly, b Book) { b.Edges[1][0] = by(great, great, -great) }, -1, true},
		{func(_ []api.Poly, b Book) { b.Edges[1][0] = by(great, great, math.MinInt) }, 1, false},
		{func(_ []api.Poly, b Book) { b.Edges[1][0] = by(great, math.MinInt, math.MinInt) }, 1, false},
		{func(_ []api.Poly, b Book) { b.Edges[2][0] = by(great, great, great) }, -1, true},
		// Rows as they are, and then turned, one behind the other.
		{func(_ []api.Poly, b Book) { b.First[0], b.First[1] = b.First[1], b.First[0] }, -1, false},
		{func(_ []api.Poly, b Book) { b.First[1], b.First[2] = b.First[2], b.First[1] }, -1, false},
		{func(_ []api.Poly, b Book) { b.Edges[1][0], b.Edges[1][1] = b.Edges[1][1], b.Edges[1][0] }, 1, false},
		{func(_ []api.Poly, b Book) { b.Edges[1][1], b.Edges[1][2] = b.Edges[1][2], b.Edges[1][1] }, 1, false},
		{func(tab []api.Poly, _ Book) { tab[2].Rows[0] = read(2, "-x0 + x1 = 0").Rows[0] }, 1, false},
		// Proofs that are none.
		{func(_ []api.Poly, b Book) { b.First[0].Den = 0 }, -1, false},
		{func(_ []api.Poly, b Book) { b.First[0].Den = 2 }, -1, false},
		{func(_ []api.Poly, b Book) { b.First[0] = by(-1, -1, 0) }, -1, false},
		{func(_ []api.Poly, b Book) { b.First[0].Den = math.MinInt }, -1, false},
		{func(_ []api.Poly, b Book) { b.First[0].Weights = nil }, -1, false},
		{func(_ []api.Poly, b Book) { b.First[0].Weights = []int{1} }, -1, false},
		{func(_ []api.Poly, b Book) { b.First[0].Weights = []int{1, 0, 0} }, -1, false},
		{func(_ []api.Poly, b Book) { b.First[2] = farkas.Proof{} }, -1, false},
		{func(_ []api.Poly, b Book) { b.Edges[0][0].Den = 0 }, 0, false},
		{func(_ []api.Poly, b Book) { b.Edges[0][2] = by(1, 0, 0) }, 0, false},
		{func(_ []api.Poly, b Book) { b.Edges[0][2] = by(1, 0, -1) }, 0, false},
		{func(_ []api.Poly, b Book) { b.Edges[1][2] = by(1, 2, 0) }, 1, false},
		{func(_ []api.Poly, b Book) { b.Edges[2][0] = by(2, 1, 1) }, 2, false},
		{func(_ []api.Poly, b Book) { b.Edges[2][0] = by(1, -1, 0) }, 2, false},
		{func(_ []api.Poly, b Book) { b.Edges[2][0] = by(1, 1, 1, 0) }, 2, false},
		{func(_ []api.Poly, b Book) { b.Edges[2][0] = by(1, 1) }, 2, false},
		// The first one counts.
		{func(_ []api.Poly, b Book) { b.First[0].Den, b.Edges[0][1].Den = 0, 0 }, -1, false},
		{func(_ []api.Poly, b Book) { b.Edges[2][0].Den, b.Edges[1][2].Den = 0, 0 }, 1, false},
		// Tables of which that is not proved.
		{func(tab []api.Poly, _ Book) { tab[0].Rows[2-1].B = 1 }, -1, false},
		{func(tab []api.Poly, _ Book) { tab[0].Rows[2-1].B = -3 }, 0, false},
		{func(tab []api.Poly, _ Book) { tab[0].Rows[0].Eq = true; tab[0].Rows[0].B = 1 }, -1, false},
		{func(tab []api.Poly, _ Book) { tab[1].Rows[0].B = 6 }, 0, false},
		{func(tab []api.Poly, _ Book) { tab[1].Rows[1].B = -7 }, -1, true},
		{func(tab []api.Poly, _ Book) { tab[1].Rows[1].B = 1 }, 0, false},
		// What is made is in form: x1 >= 5, not 2 x1 >= 10.
		{func(tab []api.Poly, _ Book) { tab[2].Rows[1].B = 10 }, 2, false},
		{func(tab []api.Poly, b Book) { tab[2].Rows[1].B, b.Edges[2][0] = 10, by(1, 1, 2) }, -1, true},
		{func(tab []api.Poly, _ Book) { tab[2].Rows[1].B = 11 }, 1, false},
		{func(tab []api.Poly, _ Book) { tab[2].Rows[1].B = 7 }, 2, false},
		{func(tab []api.Poly, _ Book) { tab[3].Rows[0].B = 9 }, -1, true},
		{func(tab []api.Poly, _ Book) { tab[3].Rows[0].B = 10 }, 2, false},
	} {
		g, choice, tab, b := byHand(t)
		c.change(tab, b)
		edge, is, err := Check(g, choice, tab, b)
		if edge != c.edge || is != c.is || err != nil {
			t.Error(i, edge, is, err)
		}
	}
}

// P170: of nothing follows all, both ways; without variables and rows there is nothing to prove.
func TestCheckNothing(t *testing.T) {
	g, c := built(t, "assume false;x=1;"), chosen("xy")
	tab := []api.Poly{read(2, ""), read(2, "none"), read(2, "0 >= 5, x0 = 7")}
	g.Edges = g.Edges[len(g.Edges)-1:]
	g.Edges[0].From, g.Edges[0].To = 1, 2
	for _, k := range []struct {
		l  []farkas.Proof
		is bool
	}{
		{[]farkas.Proof{by(1, 1), by(1, 1), by(1, 1)}, true},
		{[]farkas.Proof{by(9, 1), by(1, 3), by(5, 1)}, true},
		{[]farkas.Proof{by(1, 0), by(1, 1), by(1, 1)}, false},
		{[]farkas.Proof{by(1, 5), by(1, 1), by(1, 0)}, false},
		{[]farkas.Proof{by(1, 1), by(1, 1), by(0, 1)}, false},
	} {
		g.Points = 3
		if edge, is, err := Check(g, c, tab, Book{Edges: [][]farkas.Proof{k.l}}); is != k.is || edge != map[bool]int{true: -1}[is] || err != nil {
			t.Error(k, edge, is, err)
		}
	}
	bare := flow.Graph{Points: 2, Edges: []flow.Edge{{From: 0, To: 1, Act: flow.Act{Kind: "skip"}}}}
	none := []api.Poly{{}, {}}
	if edge, is, err := Check(bare, nil, none, Book{Edges: [][]farkas.Proof{nil}}); edge != -1 || !is || err != nil {
		t.Error(edge, is, err)
	}
	b, err := Prove(bare, nil, none)
	if len(b.First) > 0 || len(b.Edges) != 1 || len(b.Edges[0]) > 0 || err != nil {
		t.Error(b, err)
	}
	// Rows without variables.
	none = []api.Poly{read(0, "0 >= -2, 0 = 0"), read(0, "0 >= -3")}
	b, err = Prove(bare, nil, none)
	if len(b.First) != 3 || len(b.Edges) != 1 || len(b.Edges[0]) != 1 || err != nil || unproved(t, bare, nil, none, b) != -1 {
		t.Error(b, err)
	}
	if _, err := Prove(bare, nil, []api.Poly{read(0, "0 >= 1"), {}}); err != api.ErrProof {
		t.Error(err)
	}
}

// P172: tables by hand that are proved, and such that do not hold.
func TestProve(t *testing.T) {
	for _, k := range []struct {
		of, main string
		tab      []string
		want     error
	}{
		{"x", "read x;x=2*x;", []string{"x0 >= 0", "", ""}, nil},
		{"x", "read x;x=2*x;", []string{"x0 >= 1", "", ""}, api.ErrProof},
		{"x", "read x;x=2*x;", []string{"x0 = 0", "", "x0 >= 0"}, api.ErrProof},
		{"x", "read x;assume x>=2;x=2*x;", []string{"3 x0 = 0", "", "x0 >= 2, -x0 >= -9", "x0 >= 4"}, api.ErrProof},
		{"x", "read x;assume x>=2 and x<10;x=2*x;", []string{"3 x0 = 0", "", "x0 >= 2, -x0 >= -9", "x0 >= 4, -5 x0 >= -90"}, nil},
		{"x", "read x;assume x>=2 and x<10;x=2*x;", []string{"3 x0 = 0", "", "x0 >= 2, -x0 >= -9", "x0 >= 4, -5 x0 >= -89"}, api.ErrProof},
		{"xy", "read x;y=3*x-1;", []string{"", "", "3 x0 - x1 = 1, 6 x0 - 2 x1 >= 2"}, nil},
		{"xy", "read x;y=3*x-1;", []string{"", "", "3 x0 - x1 = 2"}, api.ErrProof},
		{"xy", "read x;y=3*x-1;", []string{"x0 = 0", "x0 >= 0", ""}, api.ErrProof},
		{"x", "assume x>=1;x=7;", []string{"x0 = 0", "none", "none"}, nil},
		{"x", "assume x>=1;x=7;", []string{"x0 = 0", "x0 = 5, x0 = 6", "x0 = 9, 0 >= 4, -x0 >= 100"}, nil},
		{"x", "assume x>=0;x=7;", []string{"x0 = 0", "none", "none"}, api.ErrProof},
		{"x", "while x<10{x=x+1;}", []string{"x0 = 0", "x0 >= 0, -x0 >= -10", "x0 >= 0, -x0 >= -9", "x0 >= 1, -x0 >= -10", "x0 = 10"}, nil},
		{"x", "while x<10{x=x+1;}", []string{"x0 = 0", "x0 >= 0, -x0 >= -9", "x0 >= 0, -x0 >= -9", "x0 >= 1, -x0 >= -10", "x0 = 10"}, api.ErrProof},
	} {
		g, c := built(t, k.main), chosen(k.of)
		var tab []api.Poly
		for _, s := range k.tab {
			tab = append(tab, read(len(c), s))
		}
		b, err := Prove(g, c, tab)
		if err != k.want {
			t.Error(k, err)
		}
		if err != nil {
			if len(b.First) > 0 || len(b.Edges) > 0 {
				t.Error(k, b)
			}
			continue
		}
		if len(b.Edges) != len(g.Edges) || unproved(t, g, c, tab, b) != -1 {
			t.Error(k, b)
		}
		if edge, is, err := Check(g, c, tab, b); edge != -1 || !is || err != nil {
			t.Error(k, edge, is, err)
		}
	}
}

// P173: which rows follow where.
func TestClaims(t *testing.T) {
	g, c := built(t, "x=5;y=x;read z;assume z>=1;"), chosen("xy")
	var tab []api.Poly
	for _, s := range []string{"x0 = 0, x1 >= 0", "x0 = 5, x1 >= -1", "x0 - x1 = 0, x0 + x1 >= 9", "none", "2 x0 + 3 x1 >= 7, -x0 >= -2"} {
		tab = append(tab, read(2, s))
	}
	for _, k := range []struct {
		point int
		row   string
		is    bool
	}{
		{0, "x0 = 0", true}, {0, "x0 >= 0", true}, {0, "-x0 >= 0", true}, {0, "x1 = 0", false}, {0, "x1 >= 0", true}, {0, "x1 >= 1", false}, {0, "0 >= 0", true}, {0, "0 >= 1", false}, {0, "0 = 0", true}, {0, "0 = 1", false}, {0, "0 = -1", false},
		{1, "x0 + x1 >= 4", true}, {1, "x0 + x1 >= 5", false}, {1, "4 x0 = 20", true}, {1, "4 x0 = 19", false}, {1, "-x0 = -5", true},
		{2, "2 x0 >= 9", true}, {2, "2 x1 >= 9", true}, {2, "x0 = 4", false}, {2, "3 x0 - 3 x1 = 0", true}, {2, "x0 - x1 = 1", false}, {2, "x0 - x1 = -1", false},
		{3, "0 >= 1", true}, {3, "x0 = 12", true}, {3, "0 = 7", true}, {3, "-x1 >= 2147483648", true},
		{4, "x1 >= 1", true}, {4, "x1 >= 2", false}, {4, "-x0 >= -1", false}, {4, "x0 = 2", false}, {4, "-x0 = -2", false},
	} {
		row := read(2, k.row).Rows[0]
		l, err := Claims(g, c, tab, []Claim{{Point: k.point, Row: row}})
		if len(l) != 1 || l[0] != k.is || err != nil {
			t.Error(k, l, err)
		}
		// Beside others each has its own answer.
		l, err = Claims(g, c, tab, []Claim{{0, read(2, "x0 >= 1").Rows[0]}, {k.point, row}, {3, read(2, "x0 >= 1").Rows[0]}})
		if len(l) != 3 || l[0] || l[1] != k.is || !l[2] || err != nil {
			t.Error(k, l, err)
		}
	}
	if l, err := Claims(g, c, tab, nil); len(l) > 0 || err != nil {
		t.Error(l, err)
	}
}

package proof

import (
	"math"
	"slices"
	"strings"
	"testing"
	"time"

	"raycone/api"
	"raycone/farkas"
	"raycone/flow"
	"raycone/hull"
	"raycone/lang"
)

// checkErrors of all calls that are handed a table; those of Prove are other ones where it does not hold.
func checkErrors(t *testing.T, name any, g flow.Graph, c hull.Choice, tab []api.Poly, b Book, want error) {
	t.Helper()
	if edge, is, err := Check(g, c, tab, b); err != want || edge != 0 || is {
		t.Error(name, "Check", edge, is, err)
	}
	if b, err := Prove(g, c, tab); err != want || len(b.First) > 0 || len(b.Edges) > 0 {
		t.Error(name, "Prove", b, err)
	}
	if l, err := Claims(g, c, tab, []Claim{{Point: -1}}); err != want || len(l) > 0 {
		t.Error(name, "Claims", l, err)
	}
}

// P171, P172, P173: errors of graphs, choices and tables, ahead of all others.
func TestTableErrors(t *testing.T) {
	g := built(t, "x=1;")
	good, far := read(2, ""), api.Poly{Dim: 2, Rows: []api.Row{{A: []int{1, 0}, B: api.MaxEntry + 1}}}
	long := api.Poly{Dim: 2, Rows: slices.Repeat([]api.Row{{A: []int{0, 0}}}, api.MaxRows+1)}
	for i, k := range []struct {
		g    flow.Graph
		c    hull.Choice
		t    []api.Poly
		want error
	}{
		{flow.Graph{}, nil, nil, api.ErrShape},
		{flow.Graph{Points: 121}, nil, nil, api.ErrShape},
		{flow.Graph{Points: 1, Heads: []int{1}}, hull.Choice{0}, []api.Poly{far}, api.ErrShape},
		{flow.Graph{Points: 1, Edges: []flow.Edge{{To: -1, Act: flow.Act{Kind: "skip"}}}}, nil, []api.Poly{{}}, api.ErrShape},
		{flow.Graph{Points: 1, Edges: []flow.Edge{{Act: flow.Act{Kind: "read", Name: "x"}}}}, nil, []api.Poly{{}}, api.ErrShape},
		{g, hull.Choice{0, 1}, nil, api.ErrShape},
		{g, hull.Choice{0, 1}, []api.Poly{good}, api.ErrShape},
		{g, hull.Choice{0, 1}, []api.Poly{good, good, good}, api.ErrShape},
		{g, hull.Choice{0, 1}, []api.Poly{good, {}}, api.ErrShape},
		{g, hull.Choice{0, 1}, []api.Poly{good, far}, api.ErrBound},
		{g, hull.Choice{0, 1}, []api.Poly{good, long}, api.ErrBound},
		{g, hull.Choice{0, 1}, []api.Poly{good, {Dim: 6}}, api.ErrBound},
		{g, hull.Choice{0, 1}, []api.Poly{good, good, far}, api.ErrBound},
		{g, hull.Choice{1, 0}, []api.Poly{good, far}, api.ErrBound},
		{g, hull.Choice{0, 1}, []api.Poly{{Dim: 2, Rows: []api.Row{{A: []int{1}}}}, far}, api.ErrShape},
		{g, hull.Choice{1, 0}, []api.Poly{good, good}, api.ErrShape},
		{g, hull.Choice{1, 1}, []api.Poly{good, good}, api.ErrShape},
		{g, hull.Choice{0}, []api.Poly{good, good}, api.ErrShape},
		{g, hull.Choice{0, 5}, []api.Poly{good, good}, api.ErrShape},
		{g, hull.Choice{math.MinInt, math.MaxInt}, []api.Poly{good, good}, api.ErrShape},
	} {
		checkErrors(t, i, k.g, k.c, k.t, Book{Edges: make([][]farkas.Proof, 7)}, k.want)
	}
}

// P171: a book has as many proofs as there must be, wherever else it is wrong.
func TestBookErrors(t *testing.T) {
	one := by(1, 1, 0)
	for i, change := range []func(b *Book){
		func(b *Book) { *b = Book{} },
		func(b *Book) { b.First = nil },
		func(b *Book) { b.First = b.First[:2] },
		func(b *Book) { b.First = append(b.First, one) },
		func(b *Book) { b.Edges = nil },
		func(b *Book) { b.Edges = b.Edges[:3] },
		func(b *Book) { b.Edges = append(b.Edges, nil) },
		func(b *Book) { b.Edges[0] = nil },
		func(b *Book) { b.Edges[0] = b.Edges[0][:2] },
		func(b *Book) { b.Edges[0] = append(b.Edges[0], one) },
		func(b *Book) { b.Edges[2] = nil },
		func(b *Book) { b.Edges[3] = []farkas.Proof{one} },
		func(b *Book) { b.First[0].Den, b.Edges[3] = 0, []farkas.Proof{one} },
		func(b *Book) { b.Edges[1][0].Weights, b.Edges[2] = nil, nil },
	} {
		g, c, tab, b := byHand(t)
		change(&b)
		if edge, is, err := Check(g, c, tab, b); err != api.ErrShape || edge != 0 || is {
			t.Error(i, edge, is, err)
		}
	}
	// One row with Eq wants two.
	g, c := built(t, ""), chosen("x")
	tab := []api.Poly{read(1, "x0 = 0")}
	for many, want := range []error{api.ErrShape, api.ErrShape, nil, api.ErrShape} {
		b := Book{First: []farkas.Proof{by(1, 1), by(1, -1), by(1, 1)}[:many]}
		if _, is, err := Check(g, c, tab, b); err != want || is != (err == nil) {
			t.Error(many, is, err)
		}
	}
}

// lost: of edge 2 it cannot be told, or not be handed in, what comes, and of edge 3 neither; the rest of the table holds.
func lost(t *testing.T) (g flow.Graph, c hull.Choice, tab []api.Poly) {
	t.Helper()
	g, c = built(t, "read x;assume x>=3;y=2147483648*x+1;y=2147483648*x+1;x=1;"), chosen("xy")
	for _, s := range []string{"x0 = 0, x1 = 0", "x1 = 0", "x0 >= 3, x1 >= -4", "x0 = 3, 2147483647 x1 >= 1", "x0 >= 1", "x0 = 1"} {
		tab = append(tab, read(2, s))
	}
	return g, c, tab
}

// P171, P172, P173: what comes along an edge cannot be told; an edge ahead of it of which not all is proved is told instead, and so is that the table does not hold.
func TestLostErrors(t *testing.T) {
	g, c, tab := lost(t)
	if edge, is, err := hull.Holds(g, c, tab); edge != 0 || is || err != api.ErrBound {
		t.Fatal(edge, is, err)
	}
	right := Book{
		First: []farkas.Proof{by(1, 1, 0), by(1, -1, 0), by(1, 0, 1), by(1, 0, -1)},
		Edges: [][]farkas.Proof{{by(1, 1), by(1, -1)}, {by(1, 0, 1), by(1, 1, 0)}, {{}, {}, {}}, {{}}, {{}, {}}},
	}
	checkErrors(t, "right", g, c, tab, right, api.ErrBound)
	checkErrors(t, "not as many", g, c, tab, Book{}, api.ErrBound)
	for edge := -1; edge < 2; edge++ {
		b := Book{copied(right.First), slices.Clone(right.Edges)}
		if edge < 0 {
			b.First[3].Den = 0
		} else {
			b.Edges[edge] = slices.Repeat([]farkas.Proof{{}}, 2)
		}
		if at, is, err := Check(g, c, tab, b); at != edge || is || err != nil {
			t.Error(edge, at, is, err)
		}
	}
	tab[2] = read(2, "x0 >= 4, x1 >= -4")
	if edge, is, err := Check(g, c, tab, right); edge != 1 || is || err != nil {
		t.Error(edge, is, err)
	}
	if b, err := Prove(g, c, tab); err != api.ErrProof || len(b.Edges) > 0 {
		t.Error(b, err)
	}
	l, err := Claims(g, c, tab, []Claim{{Point: 2, Row: tab[2].Rows[0]}})
	if !slices.Equal(l, []bool{true}) || err != nil {
		t.Error(l, err)
	}
}

// great table of two points: the second one's row is a mixture of those at the first, but only by numbers that are too great.
func great(t *testing.T) (g flow.Graph, c hull.Choice, tab []api.Poly) {
	t.Helper()
	const most = api.MaxEntry
	g, c = names(), chosen("xyz")
	g.Points, g.Edges = 2, []flow.Edge{{From: 0, To: 1, Act: flow.Act{Kind: "skip"}}}
	p := api.Poly{Dim: 3, Rows: []api.Row{{A: []int{most - 4, 12345, 777777}}, {A: []int{-31, most - 58, 100003}}, {A: []int{7654321, -999, most - 70}}}}
	q := api.Poly{Dim: 3, Rows: []api.Row{{A: []int{1, 1, 1}, B: -1}, {A: []int{most - 9, most - 17, most - 31}, B: -most}}}
	return g, c, []api.Poly{p, q}
}

// P172, P173: a proof that cannot be told.
func TestProofErrors(t *testing.T) {
	g, c, tab := great(t)
	if edge, is, err := hull.Holds(g, c, tab); edge != -1 || !is || err != nil {
		t.Fatal(edge, is, err)
	}
	if _, _, err := farkas.Follow(tab[0], tab[1].Rows[1]); err != api.ErrBound {
		t.Fatal(err)
	}
	if b, err := Prove(g, c, tab); err != api.ErrBound || len(b.First) > 0 || len(b.Edges) > 0 {
		t.Error(b, err)
	}
	for _, eq := range []bool{false, true} {
		row := tab[1].Rows[1]
		row.Eq = eq
		if l, err := Claims(g, c, tab, []Claim{{0, tab[0].Rows[1]}, {0, row}}); err != api.ErrBound || len(l) > 0 {
			t.Error(eq, l, err)
		}
	}
	// That it does not hold is told ahead of that.
	tab = append(tab, read(3, "x2 >= 0"))
	g.Points, g.Edges = 3, append(g.Edges, flow.Edge{From: 1, To: 2, Act: flow.Act{Kind: "skip"}})
	if b, err := Prove(g, c, tab); err != api.ErrProof || len(b.First) > 0 || len(b.Edges) > 0 {
		t.Error(b, err)
	}
}

// P173: points that are none, ahead of rows that are none.
func TestClaimErrors(t *testing.T) {
	g, c, tab, _ := byHand(t)
	row := func(b int, a ...int) api.Row { return api.Row{A: a, B: b} }
	same := func(b int, a ...int) api.Row { return api.Row{Eq: true, A: a, B: b} }
	const most = api.MaxEntry
	for i, k := range []struct {
		l    []Claim
		want error
	}{
		{[]Claim{{0, row(0, 1, 1)}, {4, row(0, 1, 1)}, {4, row(-most, most, -most)}, {3, same(-most, most, most)}}, nil},
		{[]Claim{{-1, row(0, 1, 1)}}, api.ErrShape},
		{[]Claim{{5, row(0, 1, 1)}}, api.ErrShape},
		{[]Claim{{math.MinInt, row(0, 1, 1)}}, api.ErrShape},
		{[]Claim{{math.MaxInt, row(0, 1, 1)}}, api.ErrShape},
		{[]Claim{{0, row(0, 1)}}, api.ErrShape},
		{[]Claim{{0, row(0)}}, api.ErrShape},
		{[]Claim{{0, same(0)}}, api.ErrShape},
		{[]Claim{{0, row(0, 1, 1, 1)}}, api.ErrShape},
		{[]Claim{{0, row(most+1, 1)}}, api.ErrShape},
		{[]Claim{{0, row(most+1, 1, 1)}}, api.ErrBound},
		{[]Claim{{0, row(-most-1, 1, 1)}}, api.ErrBound},
		{[]Claim{{0, row(0, 1, most+1)}}, api.ErrBound},
		{[]Claim{{0, same(0, 1, -most-1)}}, api.ErrBound},
		{[]Claim{{0, same(math.MinInt, math.MinInt, math.MinInt)}}, api.ErrBound},
		{[]Claim{{0, row(0, 1, 1)}, {0, row(0, 1, most+1)}}, api.ErrBound},
		{[]Claim{{0, row(0, 1, most+1)}, {5, row(0, 1, 1)}}, api.ErrShape},
		{[]Claim{{0, row(0, 1, 1)}, {0, row(0, 1)}}, api.ErrShape},
	} {
		l, err := Claims(g, c, tab, k.l)
		if err != k.want || (err != nil) != (len(l) == 0) {
			t.Error(i, l, err)
		}
	}
}

// full graph of tests and sets, by sums that a number chooses.
func full(kind int) flow.Graph {
	g := flow.Graph{Vars: strings.Split("abcdefghijkl", ""), Points: 120}
	name := func(i int) lang.Expr { return lang.Expr{Op: "var", Name: g.Vars[i%5]} }
	two := func(op string, a, b lang.Expr) lang.Expr { return lang.Expr{Op: op, L: []lang.Expr{a, b}} }
	number := func(n int) lang.Expr { return lang.Expr{Op: "num", N: n} }
	for i := range 400 {
		sum := two("+", two("-", two("*", number(i%4), name(i/3)), name(i/11)), number(i%17))
		act := flow.Act{Kind: "set", Name: g.Vars[i%5], Args: []lang.Expr{sum}}
		switch {
		case i < 5:
			act = flow.Act{Kind: "read", Name: g.Vars[i]}
		case i%3 != kind:
			test := lang.Test{A: sum, Rel: []string{"<", "!=", ">=", "<="}[i%4], B: name(i / 2)}
			act = flow.Act{Kind: "test", Tests: []lang.Test{test, {A: name(i), Rel: "<=", B: number(50)}}}
		}
		from, to := i%120, (i+1)%120
		if i >= 240 {
			from, to = i*i%120, i*7%120
		}
		if kind > 1 && from > to {
			from, to = to, from
		}
		g.Edges = append(g.Edges, flow.Edge{From: from, To: to, Act: act})
	}
	return g
}

// round table: of so many points at each of which many sides are around 0, and a round of edges that changes nothing.
func round(m maker, points, edges, sides int) (flow.Graph, []api.Poly) {
	g := names()
	g.Points = points
	for i := range edges {
		g.Edges = append(g.Edges, flow.Edge{From: i * i % points, To: i * 3 % points, Act: flow.Act{Kind: "skip"}})
	}
	p := api.Poly{Dim: 5}
	for range sides {
		r, square, side := api.Row{A: make([]int, 5)}, 0, 0
		for i := range r.A {
			n := m.Intn(2_000_001) - 1_000_000
			r.A[i], square = n, square+n*n
		}
		for side*side < square {
			side += 1000
		}
		r.B = -side
		p.Rows = append(p.Rows, r)
	}
	return g, slices.Repeat([]api.Poly{p}, points)
}

// P1: many points, edges and rows end soon.
func TestEndsSoon(t *testing.T) {
	c := hull.Choice{0, 1, 2, 3, 4}
	check := func(name any, g flow.Graph, tab []api.Poly) {
		t.Helper()
		started := time.Now()
		b, err := Prove(g, c, tab)
		if err != nil {
			t.Error(name, err)
		}
		if edge, is, err := Check(g, c, tab, b); edge != -1 || !is || err != nil {
			t.Error(name, edge, is, err)
		}
		if took := time.Since(started); took > time.Minute {
			t.Error(name, took)
		}
	}
	for kind := range 4 {
		g := full(kind)
		tab, err := hull.Scan(g, c)
		if err != nil {
			t.Fatal(err)
		}
		check(kind, g, tab)
	}
	g, tab := round(makerOf(5), 40, 100, 24)
	check("round", g, tab)
}

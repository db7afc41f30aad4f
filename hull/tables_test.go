package hull

import (
	"math"
	"slices"
	"strconv"
	"strings"
	"testing"
	"time"

	"raycone/api"
	"raycone/flow"
	"raycone/lang"
	"raycone/poly"
)

// P163: what is told of a few programs at their last point: it may be more that holds, but not without need.
func TestScan(t *testing.T) {
	for _, c := range []struct{ of, main, want string }{
		{"xy", "", "x = 0, y = 0"},
		{"x", "", "x = 0"},
		{"", "", ""},
		{"xy", "x=5;y=3*x+1;", "x = 5, y = 16"},
		{"xy", "read x;y=2*x;", "y = 2x"},
		{"xy", "read x;if x<0{y=-2*x;}else{y=2*x;}", "y >= 2x, y >= -2x"},
		{"xy", "read x;read y;assume 2*x<y and y<9;", "2x <= y -1, y <= 8"},
		{"xy", "assume false;", "none"},
		{"xy", "assume x>y;", "none"},
		{"xy", "while true{}", "none"},
		{"", "while true{}", "none"},
		{"xy", "while x<10{x=x+1;y=y+2;}", "x = 10, y = 20"},
		{"xz", "while x<10{x=x+1;y=y+2;}", "x = 10, z = 0"},
		{"y", "while x<10{x=x+1;y=y+2;}", "y >= 0"},
		{"", "while x<10{x=x+1;y=y+2;}", ""},
		{"xy", "while x!=10{x=x+1;y=y-3;}", "x = 10, y = -30"},
		{"xyz", "read z;assume z>=0;while x<z{x=x+1;y=y+3;}", "x = z, y = 3x, x >= 0"},
		{"xyz", "read z;x=z;while x>0{x=x-1;y=y+1;}", "x = z -y, y >= 0, x <= 0"},
		{"xyz", "while x<10{y=0;while y<x{y=y+1;}x=x+1;}", "x = 10, y = 9, z = 0"},
		{"xyz", "while x<10{y=0;while y<10{z=0;while z<10{z=z+1;}y=y+1;}x=x+1;}", "x = 10, y = 10, z = 10"},
		{"x", "while x<100000{x=x+1;}", "x = 100000"},
		{"xy", "x=100;while x>0{x=x-3;y=y+2;}", "2x 3y = 200, y <= 68, 3y >= 200"},
		{"xyzwv", "read z;assume z>=1;while x<z{read w;if w>0{y=y+1;}else{v=v+1;}x=x+1;}", "x = z, x = y v, y >= 0, v >= 0, x >= 1"},
		{"xyz", "while x<100{read z;if z>0{x=x+2;}else{x=x+1;y=y+1;}}", "x y <= 200, x <= 101, y >= 0, x >= 100"},
		{"xy", "read x;while x!=y{if x>y{x=x-y;}else{y=y-x;}}", ""},
		{"x", "while true{x=x+1;assume x<4000000;}", "none"},
	} {
		g := built(t, c.main)
		tab, err := Scan(g, chosen(c.of))
		if err != nil || len(tab) != g.Points {
			t.Fatal(c, err)
		}
		if got, want := tab[g.Points-1], formed(c.of, c.want); !isWithin(t, got, want) || c.want != "" && !same(got, want) {
			t.Errorf("%s: %s: %s, want %s", c.of, c.main, said(c.of, got), said(c.of, want))
		}
		if edge, ok, err := Holds(g, chosen(c.of), tab); edge != -1 || !ok || err != nil {
			t.Error(c, edge, ok, err)
		}
	}
}

func isWithin(t *testing.T, p, q api.Poly) bool {
	t.Helper()
	is, err := poly.Within(p, q)
	if err != nil {
		t.Fatal(p, q, err)
	}
	return is
}

// P164: an assert of which nothing leads along its edges fail, and one of which something does.
func TestScanAsserts(t *testing.T) {
	for main, safe := range map[string]bool{
		"while x<10{x=x+1;y=y+2;}assert y<=20 and y>=20;":             true,
		"while x<10{x=x+1;y=y+2;}assert y<=2*x and y>=2*x;":           true,
		"while x<10{x=x+1;y=y+2;}assert x>=11;":                       false,
		"while x<10{x=x+1;y=y+2;}assert y<=x;":                        false,
		"read x;y=3*x+1;assert 3*x<y;":                                true,
		"read x;y=3*x+1;assert 3*x<y-1;":                              false,
		"read x;read y;if x<y{z=y;}else{z=x;}assert 2*z>=x+y;":        true,
		"read x;read y;if x<y{z=y;}else{z=x;}assert 2*z>x+y;":         false,
		"read x;while x>0{x=x-1;y=y+1;}assert y>=0;":                  true,
		"read x;y=x;z=x;while x>0{x=x-1;y=y-1;z=z+1;}assert z+y>=2*x": true,
		"read x;y=2*x;while x>0{x=x-1;y=y-2;}assert x<=0;":            true,
		"read x;y=2*x;while x>0{x=x-1;y=y-2;}assert x<0;":             false,
	} {
		g, c := built(t, strings.TrimSuffix(main, ";")+";"), chosen("xyzw")
		tab, err := Scan(g, c)
		if err != nil {
			t.Fatal(err)
		}
		is := true
		for i, e := range g.Edges {
			is = is && (e.Act.Kind != "fail" || leadsNowhere(t, g, c, tab, i))
		}
		if is != safe {
			t.Error(main, is)
		}
	}
}

// P163: edges, and point 0, of which a table lacks something.
func TestHolds(t *testing.T) {
	g, c := built(t, "x=1;while x<5{x=x+1;y=2*x;}assert y>=9;"), chosen("xy")
	var good []api.Poly
	for _, s := range []string{"x = 0, y = 0", "x = 1, y = 0", "x >= 1, x <= 5, y >= 0, y <= 2x", "x >= 1, x <= 4, y >= 0, y <= 2x", "x >= 2, x <= 5, y >= 0, y <= 2x -2", "y = 2x, x >= 2, x <= 5", "x = 5, y <= 10, y >= 0", "x = 5, y <= 8, y >= 0", "x = 5, y <= 10, y >= 9"} {
		good = append(good, formed("xy", s))
	}
	for _, k := range []struct {
		point int
		to    string
		edge  int
		is    bool
	}{
		{0, "x = 0, y = 0", -1, true},
		{0, "x <= 0, x >= 0, 2x = y, 7x = 0", -1, true},
		{0, "x = 2y, y = 2x", -1, true},
		{0, "x = 0", 0, false},
		{0, "x >= y 1", -1, false},
		{0, "x = 1, y = 0", -1, false},
		{0, "none", -1, false},
		{0, "x >= 1, x <= 0", -1, false},
		{1, "x = 1, y <= 1, y >= 0", -1, true},
		{1, "x = 1, y <= 1, 2y >= -1", 1, false},
		{1, "x = 2, y = 0", 0, false},
		{1, "none", 0, false},
		{2, "x >= 1, x <= 4, y >= 0, y <= 2x", 5, false},
		{2, "x >= 1, x <= 6, y >= 0, y <= 2x", 6, false},
		{2, "", 2, false},
		{2, "x >= 1, x <= 5, y >= 0, y <= 2x, x y <= 15", -1, true},
		{2, "x >= 1, x <= 5, y >= 0, y <= 2x, 2x 2y <= 29", 5, false},
		{3, "x >= 1, x <= 5, y >= 0, y <= 2x", 3, false},
		{5, "y = 2x, x >= 2, 2x <= 11", 5, false},
		{5, "y = 2x, 2x >= 3, x <= 5", -1, true},
		{6, "x = 5, y <= 10, y >= -1", 7, false},
		{6, "x = 5, y <= 9, y >= 0", 6, false},
		{6, "x = 5, y <= 11, y >= 0", 8, false},
		{7, "none", 7, false},
		{7, "", -1, true},
		{8, "none", 8, false},
	} {
		tab := slices.Clone(good)
		tab[k.point] = loose("xy", k.to)
		if edge, is, err := Holds(g, c, tab); edge != k.edge || is != k.is || err != nil {
			t.Error(k.point, k.to, edge, is, err, "want", k.edge, k.is)
		}
	}
}

// P163: what cannot be told, or not be handed in: Holds tells ErrBound, whatever is at To, unless an edge ahead lacks something; Scan tells anything at To.
func TestLost(t *testing.T) {
	const many = "assume y>=0 and y>=100*x-2500 and y>=200*x-10000 and y>=300*x-22500 and y>=400*x-40000 and y>=500*x-62500 and y>=600*x-90000 and y>=700*x-122500 and y>=800*x-160000 and y>=900*x-202500 and y>=1000*x-250000 and y>=1100*x-302500 and y>=1200*x-360000 and y>=1300*x-422500 and y>=1400*x-490000 and y>=1500*x-562500 and y>=1600*x-640000 and y>=1700*x-722500 and y>=1800*x-810000 and y>=1900*x-902500 and y>=2000*x-1000000 and y>=2100*x-1102500 and y>=2200*x-1210000 and y>=2300*x-1322500"
	for _, c := range []struct {
		main string
		lost int // edge
	}{
		{"x=2147483648;x=x-1;", -1},
		{"x=2147483648;x=x+1;", 1},
		{"x=2147483648;y=2147483648*x;x=1;", 1},
		{"x=2147483648;y=2147483648*x+1;", 1},
		{"x=2147483648;y=2147483649*x;", -1},
		{"read x;read y;assume 2147483648*x<=2147483646*y;", -1},
		{"read x;read y;assume 2147483648*x<=y-y-2147483647*x;", -1},
		{"read x;read y;assume 2147483648*x<=y-2147483647*x;x=0;", 2},
		{"read x;read y;" + many + ";", -1},
		{"read x;read y;" + many + " and y>=2400*x-1440000;", 2},
		{"assume x==1;x=2147483648*2147483648;x=2147483648;x=2*x;", -1},
	} {
		g, of := built(t, c.main), chosen("xy")
		tab, err := Scan(g, of)
		if err != nil {
			t.Fatal(c, err)
		}
		edge, ok, err := Holds(g, of, tab)
		if c.lost < 0 {
			if edge != -1 || !ok || err != nil {
				t.Error(c, edge, ok, err)
			}
			continue
		}
		if edge != 0 || ok || err != api.ErrBound || len(tab[g.Edges[c.lost].To].Rows) > 0 {
			t.Error(c, tab, edge, ok, err)
		}
		// Nothing at all is not asked whether it can be told.
		tab[g.Edges[c.lost].From] = loose("xy", "none")
		if edge, ok, err := Holds(g, of, tab); edge != c.lost-1 || ok || err != nil {
			t.Error(c, edge, ok, err)
		}
	}
}

// What comes along the edges of a table is what Go makes, up to the first edge of which that cannot be told, or not be handed in.
func TestAlong(t *testing.T) {
	m := makerOf(1630)
	seen := map[bool]int{}
	for range 900 {
		g, c := m.wild(t), chosen(m.of(5))
		tab, err := Scan(g, c)
		if err != nil {
			t.Fatal(err)
		}
		tab = m.changed(c, tab)
		for at := range tab {
			if m.Intn(3) == 0 {
				tab[at] = api.Poly{Dim: len(c)}
				for i := range c {
					row := api.Row{Eq: true, A: make([]int, len(c)), B: api.MaxEntry - m.Intn(3)}
					row.A[i] = 1
					tab[at].Rows = append(tab[at].Rows, row)
				}
			}
		}
		made, err := Along(g, c, tab)
		if err != nil {
			t.Fatal(g, tab, err)
		}
		for i, e := range g.Edges {
			p, err := Go(g, c, tab[e.From], e.Act)
			if lost := err != nil || poly.Valid(p) != nil; lost || i == len(made) {
				if !lost || i != len(made) {
					t.Fatal(g, tab, i, p, err, len(made))
				}
				break
			}
			if !same(p, made[i]) {
				t.Fatal(g, tab, i, p, made[i])
			}
		}
		seen[len(made) < len(g.Edges)]++
	}
	if seen[true] < 20 || seen[false] < 20 {
		t.Error(seen)
	}
}

// P163: numbers that grow where ways meet do not spoil what comes: less is told there.
func TestScanKeepsNumbersSmall(t *testing.T) {
	for _, c := range []struct{ main, want string }{
		{"read z;if z>0{x=2147483647;y=1;}else{}x=2*x;x=x+1;", "y >= 0, y <= 1"},
		{"read z;if z>0{x=2147483648;y=1;}else{x=-2147483648;y=0;}", "y >= 0, y <= 1"},
		{"read z;if z>0{x=2147483647;y=1;}else{}", "x = 2147483647y, y >= 0, y <= 1"},
	} {
		g, of := built(t, c.main), chosen("xy")
		tab, err := Scan(g, of)
		if err != nil {
			t.Fatal(err)
		}
		if edge, ok, err := Holds(g, of, tab); edge != -1 || !ok || err != nil {
			t.Error(c, tab, edge, ok, err)
		}
		if last := tab[len(tab)-1]; !same(last, formed("xy", c.want)) {
			t.Error(c, said("xy", last))
		}
	}
	// What is lost wherever ways meet does not spoil the rest.
	g, of := built(t, "read z;if z>0{x=50000;y=1;}else{}x=2147483648;x=x+1;"), chosen("xy")
	tab, err := Scan(g, of)
	if _, _, lost := Holds(g, of, tab); lost != api.ErrBound || err != nil {
		t.Error(lost, err)
	}
	if met := tab[len(tab)-3]; !same(met, formed("xy", "x = 50000y, y >= 0, y <= 1")) {
		t.Error(said("xy", met))
	}
}

// edge of a program that sets or tests.
func edgeOf(t *testing.T, from, to int, s string) flow.Edge {
	t.Helper()
	return flow.Edge{From: from, To: to, Act: actOf(t, s)}
}

// P163: where more rows would come than can be handed in, some of them are told.
func TestScanManyRows(t *testing.T) {
	g := names()
	const ways = 50
	g.Points = ways + 2
	for i := range ways {
		g.Edges = append(g.Edges, edgeOf(t, 0, i+1, "x="+strconv.Itoa(i)+";"), edgeOf(t, i+1, ways+1, "y="+strconv.Itoa(i*i)+";"))
	}
	tab, err := Scan(g, chosen("xy"))
	if err != nil {
		t.Fatal(err)
	}
	last := tab[ways+1]
	if len(last.Rows) < 10 || len(last.Rows) > api.MaxRows {
		t.Error(said("xy", last))
	}
	for i := range ways {
		if in, err := poly.Has(last, api.Point{X: []int{i, i * i}, Den: 1}); !in || err != nil {
			t.Error(i, in, err)
		}
	}
	if edge, ok, err := Holds(g, chosen("xy"), tab); edge != -1 || !ok || err != nil {
		t.Error(edge, ok, err)
	}
}

// P163: as many states as points; errors ahead of others.
func TestTableErrors(t *testing.T) {
	g := built(t, "x=1;")
	good, far := loose("xy", ""), loose("xy", "x = 2147483649")
	for i, k := range []struct {
		c    Choice
		t    []api.Poly
		want error
	}{
		{Choice{0, 1}, []api.Poly{good, good}, nil},
		{Choice{0, 1}, nil, api.ErrShape},
		{Choice{0, 1}, []api.Poly{good}, api.ErrShape},
		{Choice{0, 1}, []api.Poly{good, good, good}, api.ErrShape},
		{Choice{0, 1}, []api.Poly{good, {}}, api.ErrShape},
		{Choice{0, 1}, []api.Poly{good, far}, api.ErrBound},
		{Choice{0, 1}, []api.Poly{{}, far}, api.ErrBound},
		{Choice{0, 1}, []api.Poly{{Rows: []api.Row{{A: []int{1}}}}, far}, api.ErrShape},
		{Choice{1, 0}, []api.Poly{good, far}, api.ErrBound},
		{Choice{0, 1}, []api.Poly{good, good, far}, api.ErrBound},
		{Choice{1, 0}, []api.Poly{good, good}, api.ErrShape},
		{Choice{0}, []api.Poly{good, good}, api.ErrShape},
	} {
		edge, is, err := Holds(g, k.c, k.t)
		if err != k.want || err != nil && (edge != 0 || is) {
			t.Error(i, edge, is, err)
		}
		made, err := Along(g, k.c, k.t)
		if err != k.want || (err == nil) != (len(made) == len(g.Edges)) {
			t.Error(i, made, err)
		}
	}
	for i, k := range []struct {
		g    flow.Graph
		c    Choice
		want error
	}{
		{g, nil, nil},
		{g, Choice{0, 1, 2, 3, 4}, nil},
		{g, Choice{1, 0}, api.ErrShape},
		{g, Choice{2, 2}, api.ErrShape},
		{g, Choice{5}, api.ErrShape},
		{g, Choice{-1}, api.ErrShape},
		{g, Choice{math.MaxInt}, api.ErrShape},
		{flow.Graph{Points: 1, Vars: []string{"a", "b", "c", "d", "e", "f"}}, Choice{0, 1, 2, 3, 4, 5}, api.ErrShape},
		{flow.Graph{}, nil, api.ErrShape},
		{flow.Graph{Points: 121}, nil, api.ErrShape},
		{flow.Graph{Points: 1, Heads: []int{1}}, nil, api.ErrShape},
		{flow.Graph{Points: 1, Edges: []flow.Edge{{To: 1, Act: flow.Act{Kind: "skip"}}}}, nil, api.ErrShape},
		{flow.Graph{Points: 1, Edges: []flow.Edge{{Act: flow.Act{Kind: "read", Name: "x"}}}}, nil, api.ErrShape},
	} {
		tab, err := Scan(k.g, k.c)
		if err != k.want || (err != nil) != (len(tab) == 0) {
			t.Error(i, tab, err)
		}
	}
}

// spoil all lists, each place with a number of its own: none may be written twice.
func spoil(t *testing.T, l ...api.Poly) {
	t.Helper()
	n := 0
	each := func(see func(number *int)) {
		n = 0
		for _, p := range l {
			rows := p.Rows[:cap(p.Rows)]
			for i := range rows {
				see(&rows[i].B)
				a := rows[i].A[:cap(rows[i].A)]
				for j := range a {
					see(&a[j])
				}
			}
		}
	}
	each(func(number *int) { n++; *number = n })
	each(func(number *int) {
		if n++; *number != n {
			t.Fatal(l)
		}
	})
}

// P4: answers are new memory, no two lists of one share any, and what is handed over is only read, and nothing behind its length.
func TestMemory(t *testing.T) {
	g := built(t, "read x;while x<5{x=x+1;y=x;if x<y{}else{assert true;}}assume true;")
	long := Choice{0, 1, 7}
	first, err := Scan(g, long[:2])
	if err != nil {
		t.Fatal(err)
	}
	var want []string
	for _, p := range first {
		want = append(want, said("xy", p))
	}
	spoil(t, first...)
	again, err := Scan(g, long[:2])
	for i, p := range again {
		if said("xy", p) != want[i] || err != nil {
			t.Error(i, p, err)
		}
	}
	if !slices.Equal(long, Choice{0, 1, 7}) {
		t.Error(long)
	}
	const some = "x >= 0, x <= 3, y <= 2x 1"
	for _, act := range []string{"while true{}", "x=y;", "x=x*y;", "z=1;", "read x;", "read z;", "a[0]=1;", "assume true;", "assume x<z;", "assume x<y;", "assume x!=0;", "assume x>=0;", "assert x<2;"} {
		for _, from := range []api.Poly{loose("xy", some), formed("xy", some), loose("xy", "none")} {
			p := api.Poly{Dim: 2}
			bad := api.Row{A: []int{1, 2, 3}, B: 1 << 40}
			for _, r := range append(slices.Clone(from.Rows), bad) {
				p.Rows = append(p.Rows, api.Row{Eq: r.Eq, A: append(slices.Clone(r.A), 99)[:len(r.A)], B: r.B})
			}
			p.Rows = p.Rows[:len(from.Rows)]
			to, err := Go(names(), long[:2], p, actOf(t, act))
			if err != nil {
				t.Fatal(act, to, err)
			}
			kept := said("xy", to)
			other, err := Go(names(), long[:2], p, actOf(t, act))
			spoil(t, to, other)
			behind := p.Rows[:len(p.Rows)+1][len(p.Rows)]
			if err != nil || !same(p, from) || !slices.Equal(behind.A, bad.A) || behind.B != bad.B || len(p.Rows) > 0 && p.Rows[0].A[:3][2] != 99 {
				t.Error(act, p, err)
			}
			to, _ = Go(names(), long[:2], p, actOf(t, act))
			spoil(t, p)
			if said("xy", to) != kept {
				t.Error(act, said("xy", to), kept)
			}
		}
	}
	table := append(again, api.Poly{Dim: 9})[:len(again)]
	if edge, ok, err := Holds(g, long[:2], table); edge != -1 || !ok || err != nil {
		t.Error(edge, ok, err)
	}
	for i, p := range table {
		if said("xy", p) != want[i] {
			t.Error(i, p)
		}
	}
}

// full graph of tests and sets, by sums that a number chooses.
func full(t *testing.T, kind int) flow.Graph {
	g := flow.Graph{Vars: strings.Split("abcdefghijkl", ""), Points: 120}
	name := func(i int) lang.Expr { return lang.Expr{Op: "var", Name: g.Vars[i%5]} }
	two := func(op string, a, b lang.Expr) lang.Expr { return lang.Expr{Op: op, L: []lang.Expr{a, b}} }
	number := func(n int) lang.Expr { return lang.Expr{Op: "num", N: n} }
	for i := range 400 {
		sum := two("+", two("-", two("*", number(i%4), name(i/3)), name(i/11)), number(i%17))
		act := flow.Act{Kind: "set", Name: g.Vars[i%5], Args: []lang.Expr{sum}}
		switch {
		case i < 5:
			act = flow.Act{Kind: "read", Name: g.Vars[i]}
		case i%3 != kind:
			test := lang.Test{A: sum, Rel: []string{"<", "!=", ">=", "<="}[i%4], B: name(i / 2)}
			act = flow.Act{Kind: "test", Tests: []lang.Test{test, {A: name(i), Rel: "<=", B: number(50)}}}
		}
		from, to := i, i+1
		switch {
		case i >= 238:
			from, to = i*i%120, i*7%120
		case i >= 119:
			from, to = i-118, i-119
		}
		if kind > 1 && from > to {
			from, to = to, from
		}
		g.Edges = append(g.Edges, flow.Edge{From: from, To: to, Act: act})
	}
	return g
}

// round graph: along each edge so many tests that leave all around 0, of sides that no other one makes needless.
func round(m maker, points, edges, sides int) flow.Graph {
	g := names()
	g.Points = points
	two := func(op string, a, b lang.Expr) lang.Expr { return lang.Expr{Op: op, L: []lang.Expr{a, b}} }
	number := func(n int) lang.Expr { return lang.Expr{Op: "num", N: n} }
	for i := range edges {
		act := flow.Act{Kind: "test"}
		for range sides {
			sum, square, side := number(0), 0, 0
			for _, name := range g.Vars {
				n := m.Intn(10)
				square += n * n
				sum = two([]string{"+", "-"}[m.Intn(2)], sum, two("*", number(n), lang.Expr{Op: "var", Name: name}))
			}
			for side*side < 1_000_000*square {
				side++
			}
			act.Tests = append(act.Tests, lang.Test{A: sum, Rel: "<=", B: number(side)})
		}
		e := flow.Edge{From: i, To: i + 1, Act: act}
		switch {
		case i < 5:
			e.Act = flow.Act{Kind: "read", Name: g.Vars[i]}
		case i >= points-1:
			e.From, e.To = 5+m.Intn(points-5), 5+m.Intn(points-5)
		}
		g.Edges = append(g.Edges, e)
	}
	return g
}

// P1: many points, edges and tests end soon, whatever is done along them.
func TestScanEndsSoon(t *testing.T) {
	graphs := []flow.Graph{round(makerOf(1), 40, 100, 6), round(makerOf(2), 20, 40, 20), round(makerOf(3), 60, 70, 24)}
	for kind := range 4 {
		graphs = append(graphs, full(t, kind))
	}
	c := Choice{0, 1, 2, 3, 4}
	for i, g := range graphs {
		started := time.Now()
		tab, err := Scan(g, c)
		if err != nil {
			t.Fatal(i, err)
		}
		switch edge, ok, err := Holds(g, c, tab); {
		case err != nil && i < 3:
			// So many sides cannot be handed in.
		case edge != -1 || !ok || err != nil:
			t.Error(i, edge, ok, err)
		}
		if took := time.Since(started); took > time.Minute {
			t.Error(i, took)
		}
	}
}

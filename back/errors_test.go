package back

import (
	"math"
	"slices"
	"strings"
	"sync"
	"testing"
	"time"

	"raycone/api"
	"raycone/flow"
	"raycone/hull"
	"raycone/lang"
)

// P180: errors are told as by hull.Go, in its order.
func TestBeforeErrors(t *testing.T) {
	g, c := names(), chosen("xy")
	skip := flow.Act{Kind: "skip"}
	good, far := read(2, "x0 = 1"), api.Poly{Dim: 2, Rows: []api.Row{{A: []int{1, 0}, B: api.MaxEntry + 1}}}
	many := api.Poly{Dim: 2, Rows: slices.Repeat([]api.Row{{A: []int{1, 0}}}, api.MaxRows+1)}
	number := lang.Expr{Op: "num", N: 1}
	other := lang.Expr{Op: "var", Name: "q"}
	for i, k := range []struct {
		g    flow.Graph
		c    hull.Choice
		p    api.Poly
		a    flow.Act
		want error
	}{
		{g, c, good, skip, nil},
		{flow.Graph{Points: 1}, nil, api.Poly{}, skip, nil},
		{flow.Graph{}, c, far, skip, api.ErrShape},
		{flow.Graph{Points: 1, Heads: []int{1}}, nil, far, skip, api.ErrShape},
		{flow.Graph{Points: 1, Edges: []flow.Edge{{Act: flow.Act{Kind: "read", Name: "x"}}}}, nil, far, skip, api.ErrShape},
		{g, c, far, skip, api.ErrBound},
		{g, c, many, skip, api.ErrBound},
		{g, c, api.Poly{Dim: 6}, skip, api.ErrBound},
		{g, c, api.Poly{Dim: -1}, skip, api.ErrBound},
		{g, c, api.Poly{Dim: 2, Rows: []api.Row{{A: []int{1}}}}, skip, api.ErrShape},
		{g, hull.Choice{1, 0}, far, flow.Act{}, api.ErrBound},
		{g, hull.Choice{1, 0}, good, skip, api.ErrShape},
		{g, hull.Choice{0, 0}, good, skip, api.ErrShape},
		{g, hull.Choice{0, 5}, good, skip, api.ErrShape},
		{g, hull.Choice{-1, 0}, good, skip, api.ErrShape},
		{g, chosen("x"), good, skip, api.ErrShape},
		{g, c, api.Poly{Dim: 1}, skip, api.ErrShape},
		{g, c, good, flow.Act{}, api.ErrShape},
		{g, c, good, flow.Act{Kind: "skip", Name: "x"}, api.ErrShape},
		{g, c, good, flow.Act{Kind: "set", Name: "x"}, api.ErrShape},
		{g, c, good, flow.Act{Kind: "set", Name: "q", Args: []lang.Expr{number}}, api.ErrShape},
		{g, c, good, flow.Act{Kind: "set", Name: "x", Args: []lang.Expr{other}}, api.ErrShape},
		{g, c, good, flow.Act{Kind: "set", Name: "x", Args: []lang.Expr{number, number}}, api.ErrShape},
		{g, c, good, flow.Act{Kind: "put", Name: "x", Args: []lang.Expr{number, number}}, api.ErrShape},
		{g, c, good, flow.Act{Kind: "read", Name: "a"}, api.ErrShape},
		{g, c, good, flow.Act{Kind: "test", Tests: []lang.Test{{A: number, Rel: "=", B: number}}}, api.ErrShape},
		{g, c, good, flow.Act{Kind: "fail", Tests: []lang.Test{{A: number, Rel: "<", B: other}}}, api.ErrShape},
		{g, c, good, flow.Act{Kind: "fail", Name: "x"}, api.ErrShape},
	} {
		got, err := Before(k.g, k.c, k.p, k.a)
		if err != k.want || err != nil && !isZero(got) {
			t.Error(i, got, err, k.want)
		}
		if _, err := hull.Go(k.g, k.c, k.p, k.a); err != k.want {
			t.Error(i, "Go", err)
		}
	}
}

// P181, P182: errors of graphs and choices, then of points, then of rounds.
func TestNeedErrors(t *testing.T) {
	g, c := built(t, "x=1;"), chosen("xy")
	for i, k := range []struct {
		g              flow.Graph
		c              hull.Choice
		target, rounds int
		want           error
	}{
		{g, c, 0, 0, nil},
		{g, c, 1, 10, nil},
		{g, nil, 1, 10, nil},
		{g, chosen("xyzwv"), 1, 10, nil},
		{flow.Graph{}, nil, 0, 11, api.ErrShape},
		{flow.Graph{Points: api.MaxPoints + 1}, nil, 0, 0, api.ErrShape},
		{flow.Graph{Points: 1, Edges: []flow.Edge{{To: 1, Act: flow.Act{Kind: "skip"}}}}, nil, 0, 0, api.ErrShape},
		{g, hull.Choice{1, 0}, 0, 11, api.ErrShape},
		{g, hull.Choice{5}, 0, 0, api.ErrShape},
		{g, hull.Choice{-1}, 0, 0, api.ErrShape},
		{flow.Graph{Vars: strings.Split("abcdef", ""), Points: 1}, hull.Choice{0, 1, 2, 3, 4, 5}, 0, 0, api.ErrShape},
		{g, c, 2, 0, api.ErrShape},
		{g, c, -1, 0, api.ErrShape},
		{g, c, math.MaxInt, 0, api.ErrShape},
		{g, c, math.MinInt, -1, api.ErrShape},
		{g, c, 2, 11, api.ErrShape},
		{g, c, 0, 11, api.ErrBound},
		{g, c, 0, -1, api.ErrBound},
		{g, c, 1, math.MaxInt, api.ErrBound},
		{g, c, 1, math.MinInt, api.ErrBound},
	} {
		if l, err := Need(k.g, k.c, k.target, k.rounds); err != k.want || err != nil && len(l) > 0 || err == nil && len(l) != k.g.Points {
			t.Error(i, l, err, k.want)
		}
		// What is wrong with a graph or a choice is so for Blame, too.
		if k.target == 0 && (k.rounds == 0 || k.want == api.ErrShape) {
			if l, err := Blame(k.g, k.c); err != k.want || len(l) > 0 {
				t.Error(i, "Blame", l, err)
			}
		}
	}
}

// P4: what is handed over is only read, and what is told is new.
func TestMemory(t *testing.T) {
	g := built(t, "read x;while x<5{x=x+1;if x<y{y=x;}}assert x<=y;")
	c := append(chosen("xy"), 9)[:2]
	first, err := Need(g, c, g.Points-2, 3)
	if err != nil {
		t.Fatal(err)
	}
	want := said(t, first...)
	spoil := func(l ...api.Poly) {
		for _, p := range l {
			for i := range p.Rows {
				for x := range p.Rows[i].A {
					p.Rows[i].A[x] = -77
				}
				p.Rows[i].B = 55
			}
		}
	}
	for i := range first {
		others := slices.Concat(first[:i], first[i+1:])
		before := said(t, others...)
		spoil(first[i])
		if said(t, others...) != before {
			t.Error(i, "two share memory")
		}
	}
	if again, err := Need(g, c, g.Points-2, 3); said(t, again...) != want || err != nil {
		t.Error(said(t, again...), err)
	}
	if c[:3][2] != 9 || !slices.Equal(c, chosen("xy")) {
		t.Error(c[:3])
	}
	for _, act := range []string{"while true{}", "x=y;", "x=x*y;", "z=1;", "read x;", "read z;", "a[0]=1;", "assume true;", "assume x<y;", "assume x!=0;"} {
		p := read(2, "x0 >= 0, -x0 >= -3, x0 - x1 >= -1")
		p.Rows = append(p.Rows, api.Row{A: []int{1, 2, 3}, B: 1 << 40})[:3]
		kept := said(t, p)
		got, err := Before(g, c, p, actOf(t, act))
		if err != nil || said(t, p) != kept || p.Rows[:4][3].B != 1<<40 {
			t.Error(act, said(t, p), err)
		}
		was := said(t, got)
		spoil(p)
		if said(t, got) != was {
			t.Error(act, "shares memory")
		}
	}
}

// P2: the same is answered, also side by side.
func TestSideBySide(t *testing.T) {
	m := makerOf(2)
	type one struct {
		g     flow.Graph
		c     hull.Choice
		need  string
		blame []int
	}
	var all []one
	for range 40 {
		o := one{g: m.graph(t), c: chosen(m.of(5))}
		need, err := Need(o.g, o.c, o.g.Points-1, 2)
		if err != nil {
			t.Fatal(err)
		}
		o.need = said(t, need...)
		if o.blame, err = Blame(o.g, o.c); err != nil {
			t.Fatal(err)
		}
		all = append(all, o)
	}
	var wait sync.WaitGroup
	for range 8 {
		wait.Go(func() {
			for _, o := range all {
				need, err := Need(o.g, o.c, o.g.Points-1, 2)
				if err != nil || said(t, need...) != o.need {
					t.Error(o.g, err)
				}
				if l, err := Blame(o.g, o.c); !slices.Equal(l, o.blame) || err != nil {
					t.Error(o.g, l, err)
				}
			}
		})
	}
	wait.Wait()
}

// full graph of tests and sets, by sums that a number chooses.
func full(kind int) flow.Graph {
	g := flow.Graph{Vars: strings.Split("abcdefghijkl", ""), Points: 120}
	name := func(i int) lang.Expr { return lang.Expr{Op: "var", Name: g.Vars[i%5]} }
	two := func(op string, a, b lang.Expr) lang.Expr { return lang.Expr{Op: op, L: []lang.Expr{a, b}} }
	number := func(n int) lang.Expr { return lang.Expr{Op: "num", N: n} }
	for i := range 400 {
		sum := two("+", two("-", two("*", number(i%4), name(i/3)), name(i/11)), number(i%17))
		act := flow.Act{Kind: "set", Name: g.Vars[i%5], Args: []lang.Expr{sum}}
		switch {
		case i < 5:
			act = flow.Act{Kind: "read", Name: g.Vars[i]}
		case i%3 != kind:
			test := lang.Test{A: sum, Rel: []string{"<", "!=", ">=", "<="}[i%4], B: name(i / 2)}
			act = flow.Act{Kind: "fail", Tests: []lang.Test{test, {A: name(i), Rel: "<=", B: number(50)}}}
		}
		from, to := i, i+1
		switch {
		case i >= 238:
			from, to = i*i%120, i*7%120
		case i >= 119:
			from, to = i-118, i-119
		}
		if kind > 1 && from > to {
			from, to = to, from
		}
		g.Edges = append(g.Edges, flow.Edge{From: from, To: to, Act: act})
	}
	return g
}

// round graph: along each edge so many tests that leave all around 0, of sides that no other one makes needless.
func round(m maker, points, edges, sides int) flow.Graph {
	g := names()
	g.Points = points
	for i := range edges {
		act := flow.Act{Kind: "fail"}
		for range sides {
			row, square, side := api.Row{A: make([]int, 5)}, 0, 0
			for x := range row.A {
				row.A[x] = m.Intn(19) - 9
				square += row.A[x] * row.A[x]
			}
			for side*side < 1_000_000*square {
				side++
			}
			act.Tests = append(act.Tests, testOf(row, "<=", side))
		}
		e := flow.Edge{From: i, To: i + 1, Act: act}
		switch {
		case i < 5:
			e.Act = flow.Act{Kind: "read", Name: g.Vars[i]}
		case i >= points-1:
			e.From, e.To = 5+m.Intn(points-5), 5+m.Intn(points-5)
		}
		g.Edges = append(g.Edges, e)
	}
	return g
}

// testOf a row's sum and a number.
func testOf(r api.Row, rel string, n int) lang.Test {
	sum := lang.Expr{Op: "num"}
	for x, times := range r.A {
		part := lang.Expr{Op: "*", L: []lang.Expr{{Op: "num", N: max(times, -times)}, {Op: "var", Name: names().Vars[x]}}}
		op := "+"
		if times < 0 {
			op = "-"
		}
		sum = lang.Expr{Op: op, L: []lang.Expr{sum, part}}
	}
	return lang.Test{A: sum, Rel: rel, B: lang.Expr{Op: "num", N: n}}
}

// P1: many points, edges and tests end soon.
func TestEndsSoon(t *testing.T) {
	graphs := []flow.Graph{round(makerOf(1), 40, 100, 6), full(0), full(3)}
	for i, g := range graphs {
		started := time.Now()
		if l, err := Need(g, hull.Choice{0, 1, 2, 3, 4}, g.Points/2, 10); len(l) != g.Points || err != nil {
			t.Error(i, err)
		}
		if l, err := Blame(g, hull.Choice{0, 1, 2, 3, 4}); len(l) == 0 || err != nil {
			t.Error(i, err)
		}
		if took := time.Since(started); took > time.Minute {
			t.Error(i, took)
		}
	}
}

package rank

import (
	"math"
	"slices"
	"sync"
	"testing"
	"time"

	"raycone/api"
	"raycone/flow"
	"raycone/hull"
	"raycone/lang"
)

// P193: errors, in their order.
func TestOfHeadErrors(t *testing.T) {
	g := built(t, "read x;while x>0{x=x-1;}")
	head, c := g.Heads[0], hull.Choice{0}
	good := everything(g, c)
	with := func(p api.Poly) []api.Poly {
		l := slices.Clone(good)
		l[1] = p
		return l
	}
	far := with(api.Poly{Dim: 1, Rows: []api.Row{{A: []int{over}}}})
	odd := with(api.Poly{Dim: 1, Rows: []api.Row{{A: []int{1, 2}}}})
	double := built(t, "read x;while x>0{x=2147483647*x;x=2147483647*x;x=2147483647*x;}")
	lost := everything(double, c)
	lost[3] = read(1, "x0 = 2")
	wrong := g
	wrong.Heads = []int{head, g.Points}
	for i, k := range []struct {
		g    flow.Graph
		c    hull.Choice
		t    []api.Poly
		head int
		want error
	}{
		{g, c, good, head, nil},
		{flow.Graph{}, c, nil, 0, api.ErrShape},
		{wrong, c, far, head, api.ErrShape},
		{flow.Graph{Points: api.MaxPoints + 1, Heads: []int{0}}, c, far, 0, api.ErrShape},
		{g, c, good, 0, api.ErrShape},
		{g, c, far, 0, api.ErrShape},
		{g, c, good, -1, api.ErrShape},
		{g, c, good, g.Points, api.ErrShape},
		{g, c, good, math.MaxInt, api.ErrShape},
		{g, c, good, math.MinInt, api.ErrShape},
		{g, nil, far, head, api.ErrShape},
		{g, nil, everything(g, nil), head, api.ErrShape},
		{g, hull.Choice{0, 1, 2}, far, head, api.ErrShape},
		{g, hull.Choice{0, 1, 2}, everything(g, hull.Choice{0, 1, 2}), head, api.ErrShape},
		{g, c, far, head, api.ErrBound},
		{g, c, odd, head, api.ErrShape},
		{g, c, with(api.Poly{Dim: 6}), head, api.ErrBound},
		{g, c, with(api.Poly{Dim: 2}), head, api.ErrShape},
		{g, c, with(api.Poly{Dim: 1, Rows: slices.Repeat([]api.Row{{A: []int{1}}}, api.MaxRows+1)}), head, api.ErrBound},
		{g, hull.Choice{1, 0}, far, head, api.ErrBound},
		{g, hull.Choice{1, 0}, everything(g, hull.Choice{0, 1}), head, api.ErrShape},
		{g, hull.Choice{0, 0}, everything(g, hull.Choice{0, 1}), head, api.ErrShape},
		{g, hull.Choice{3}, good, head, api.ErrShape},
		{g, hull.Choice{-1}, good, head, api.ErrShape},
		{g, c, nil, head, api.ErrShape},
		{g, c, good[1:], head, api.ErrShape},
		{g, c, append(slices.Clone(good), good[0]), head, api.ErrShape},
		// What comes of an act cannot be handed in.
		{double, c, lost, double.Heads[0], api.ErrBound},
		// What comes of three of them cannot be told.
		{double, c, everything(double, c), double.Heads[0], api.ErrBound},
	} {
		if l, err := OfHead(k.g, k.c, k.t, k.head); err != k.want || err != nil && len(l) > 0 {
			t.Error(i, l, err, k.want)
		}
	}
}

// P193: where fewer are great, what comes is told.
func TestFarRounds(t *testing.T) {
	g, c := built(t, "read x;while x>0{x=2147483647*x;x=2147483647*x;}"), hull.Choice{0}
	l, err := OfHead(g, c, everything(g, c), g.Heads[0])
	const square = 2147483647 * 2147483647
	if err != nil || len(l) != 1 || len(l[0].Rows) != 2 {
		t.Fatal(l, err)
	}
	if both, low := l[0].Rows[0], l[0].Rows[1]; !both.Eq || !slices.Equal(both.A, []int{square, -1}) || low.Eq || !slices.Equal(low.A, []int{0, 1}) || low.B != square {
		t.Error(l)
	}
	// But no call takes it.
	if err := Valid(l[0]); err != api.ErrBound {
		t.Error(err)
	}
}

// P4: what is handed over is only read, and what is told is new.
func TestMemory(t *testing.T) {
	g := built(t, "read x;while x>0{if x>5{x=x-2;}else{x=x-1;}}")
	c := append(hull.Choice{0}, 9)[:1]
	table := scanned(t, g, c)
	first, err := OfHead(g, c, table, g.Heads[0])
	if err != nil {
		t.Fatal(err)
	}
	want := said(t, first...)
	other := said(t, first[1])
	for _, r := range first[0].Rows {
		r.A[0], r.A[1] = -77, 55
	}
	if said(t, first[1]) != other {
		t.Error("two share memory")
	}
	if again, err := OfHead(g, c, table, g.Heads[0]); said(t, again...) != want || err != nil || c[:2][1] != 9 {
		t.Error(said(t, again...), err)
	}
	l := loop(2, "x0 >= 0, x1 >= 0, x0 + x1 - x2 - x3 = 1")
	l.Rows = append(l.Rows, api.Row{A: []int{over}})[:3]
	kept := said(t, l)
	r, is, err := Find(l)
	if !is || err != nil || said(t, l) != kept || len(l.Rows[:4][3].A) != 1 {
		t.Fatal(r, is, err)
	}
	longer := r
	longer.F = append(slices.Clone(r.F), 88)[:2]
	longer.A.Weights = append(slices.Clone(r.A.Weights), -1)[:3]
	if ok, err := Check(l, longer); !ok || err != nil || longer.F[:3][2] != 88 {
		t.Error(ok, err)
	}
	f, a, b := slices.Clone(r.F), slices.Clone(r.A.Weights), slices.Clone(r.B.Weights)
	_ = append(append(append(r.F[:1], 4), r.A.Weights[:0]...), 5)
	r.F[0] = 99
	if !slices.Equal(r.A.Weights, a) || !slices.Equal(r.B.Weights, b) {
		t.Error("lists of one answer share memory")
	}
	if again, _, _ := Find(l); !slices.Equal(again.F, f) {
		t.Error(again)
	}
}

// P2: the same is answered, also side by side.
func TestSideBySide(t *testing.T) {
	m := makerOf(21)
	var loops []Loop
	var ranks []Rank
	for range 60 {
		l := m.loop(5, 6)
		r, _, err := Find(l)
		if err != nil {
			t.Fatal(err)
		}
		loops, ranks = append(loops, l), append(ranks, r)
	}
	same := func(a, b Rank) bool {
		return slices.Equal(a.F, b.F) && a.Low == b.Low && a.Fall == b.Fall && slices.Equal(a.A.Weights, b.A.Weights) && slices.Equal(a.B.Weights, b.B.Weights)
	}
	g, c := built(t, "read x;while x>0{if x>5{x=x-2;}else{x=x-1;}}"), hull.Choice{0, 1}
	table := scanned(t, g, c)
	first, err := OfHead(g, c, table, g.Heads[0])
	if err != nil {
		t.Fatal(err)
	}
	want := said(t, first...)
	var wait sync.WaitGroup
	for range 8 {
		wait.Go(func() {
			for i, l := range loops {
				if r, _, err := Find(l); err != nil || !same(r, ranks[i]) {
					t.Error(l, r, err)
				}
			}
			if l, err := OfHead(g, c, table, g.Heads[0]); err != nil || said(t, l...) != want {
				t.Error(l, err)
			}
		})
	}
	wait.Wait()
}

// P1: the greatest loops and long ways end soon.
func TestEndsSoon(t *testing.T) {
	m, began := makerOf(22), time.Now()
	for range 40 {
		l := Loop{Dim: 2}
		for range api.MaxRows {
			r := api.Row{A: make([]int, 4), B: -m.Intn(api.MaxEntry)}
			for i := range r.A {
				r.A[i] = m.number(api.MaxEntry)
			}
			l.Rows = append(l.Rows, r)
		}
		if r, is, err := Find(l); err != nil && err != api.ErrBound {
			t.Error(r, is, err)
		}
	}
	g, c := flow.Graph{Vars: []string{"x", "y"}, Points: api.MaxPoints, Heads: []int{0}}, hull.Choice{0, 1}
	for i := range 370 {
		act := flow.Act{Kind: "read", Name: g.Vars[i%2]}
		if i%3 > 0 {
			sum := func() lang.Expr { return actOf(t, "x="+m.term()+";").Args[0] }
			act = flow.Act{Kind: "test", Tests: []lang.Test{{A: sum(), Rel: "<=", B: sum()}, {A: sum(), Rel: ">=", B: sum()}}}
		}
		if i%5 == 0 {
			act = actOf(t, m.one("x=2*x-y;", "y=3*y+x;", "x=x+3;"))
		}
		from, to := i%119, i%119+1
		if i >= 123 {
			from, to = 119, 0
		}
		if i < 152 {
			g.Edges = append(g.Edges, flow.Edge{From: from, To: to, Act: act})
		}
	}
	if l, err := OfHead(g, c, everything(g, c), 0); err != nil && err != api.ErrBound {
		t.Error(l, err)
	}
	if took := time.Since(began); took > time.Minute {
		t.Error(took)
	}
}

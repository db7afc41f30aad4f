package proof

import (
	"errors"
	"fmt"
	"math"
	"reflect"
	"slices"
	"sync"
	"testing"

	"raycone/api"
	"raycone/farkas"
	"raycone/flow"
	"raycone/hull"
	"raycone/poly"
)

// table at random of a graph: what Scan tells, changed or not.
func (m maker) table(t *testing.T, g flow.Graph, c hull.Choice) []api.Poly {
	t.Helper()
	tab, err := hull.Scan(g, c)
	if err != nil {
		t.Fatal(g, err)
	}
	return m.changed(len(c), tab)
}

// walk at random from point 0, all 0: each state is one of the table.
func (m maker) walk(t *testing.T, g flow.Graph, c hull.Choice, tab []api.Poly) {
	t.Helper()
	at, vars, arrays := 0, make([]int, len(g.Vars)), [][]int{{0, 0, 0}, {0}}
	for range 25 {
		x := make([]int, len(c))
		for i, n := range c {
			if x[i] = vars[n]; max(x[i], -x[i]) > api.MaxEntry {
				return
			}
		}
		if is, err := poly.Has(tab[at], api.Point{X: x, Den: 1}); !is || err != nil {
			t.Fatal(g, c, tab, at, vars, err)
		}
		l, err := flow.Steps(g, at, vars, arrays, m.Intn(13)-6)
		if err != nil {
			t.Fatal(err)
		}
		if len(l) == 0 {
			return
		}
		next := l[m.Intn(len(l))]
		at, vars, arrays = next.To, next.Vars, next.Arrays
	}
}

// spoilt book: a few proofs are a little other than they were.
func (m maker) spoilt(b Book) Book {
	out := Book{First: copied(b.First)}
	var l []*farkas.Proof
	for i := range out.First {
		l = append(l, &out.First[i])
	}
	for _, p := range b.Edges {
		out.Edges = append(out.Edges, copied(p))
		for i := range p {
			l = append(l, &out.Edges[len(out.Edges)-1][i])
		}
	}
	for range m.Intn(3) {
		if len(l) == 0 {
			break
		}
		f, times := l[m.Intn(len(l))], 1+m.Intn(3)
		for i := range f.Weights {
			f.Weights[i] *= times
		}
		f.Den *= times
		switch n := m.Intn(5); {
		case n < 3 && len(f.Weights) > 0:
			f.Weights[m.Intn(len(f.Weights))] += m.Intn(3) - 1
		case n == 3:
			f.Den += m.Intn(3) - 1
		}
	}
	return out
}

func copied(l []farkas.Proof) []farkas.Proof {
	out := slices.Clone(l)
	for i := range out {
		out[i].Weights = slices.Clone(out[i].Weights)
	}
	return out
}

// P170, P171, P172, P174: a table is proved just if it holds; the book is right, and Check takes it; of other books it tells where they are not; and what it takes has all that is come to.
func TestAlways(t *testing.T) {
	m := makerOf(174)
	seen := map[string]int{}
	for range 1500 {
		g, c := m.graph(t), chosen(m.of(5))
		tab := m.table(t, g, c)
		_, holds, wrong := hull.Holds(g, c, tab)
		b, err := Prove(g, c, tab)
		switch {
		case wrong != nil:
			if err != wrong {
				t.Fatal(g, tab, err, wrong)
			}
			seen["wrong"]++
			continue
		case !holds:
			if err != api.ErrProof || len(b.First) > 0 || len(b.Edges) > 0 {
				t.Fatal(g, tab, b, err)
			}
			seen["not proved"]++
			continue
		case err != nil || len(b.Edges) != len(g.Edges) || unproved(t, g, c, tab, b) != -1:
			t.Fatal(g, tab, b, err)
		}
		if edge, is, err := Check(g, c, tab, b); edge != -1 || !is || err != nil {
			t.Fatal(g, tab, b, edge, is, err)
		}
		seen["proved"]++
		m.walk(t, g, c, tab)
		b = m.spoilt(b)
		want := unproved(t, g, c, tab, b)
		if edge, is, err := Check(g, c, tab, b); edge != max(want, -1) || is != (want == -1) || err != nil {
			t.Fatal(g, tab, b, edge, is, err, want)
		}
		seen[map[int]string{-2: "first", -1: "right", 0: "edge"}[min(want, 0)]]++
	}
	for _, kind := range []string{"not proved", "proved", "first", "right", "edge"} {
		if seen[kind] < 60 {
			t.Error(seen)
		}
	}
}

// P171: a book of another table is asked for each of its proofs.
func TestCheckOtherTable(t *testing.T) {
	m := makerOf(171)
	seen := map[int]int{}
	for range 600 {
		g, c := m.graph(t), chosen(m.of(3))
		tab, err := hull.Scan(g, c)
		if err != nil {
			t.Fatal(g, err)
		}
		b, err := Prove(g, c, tab)
		if err != nil {
			t.Fatal(g, tab, err)
		}
		// As many rows stay, so that the book fits; and numbers so small that all can be told.
		for range 1 + m.Intn(2) {
			p := &tab[m.Intn(len(tab))]
			*p = api.Poly{Dim: p.Dim, Rows: slices.Clone(p.Rows)}
			if len(p.Rows) > 0 {
				p.Rows[m.Intn(len(p.Rows))].B += m.Intn(5) - 2
			}
		}
		want := unproved(t, g, c, tab, b)
		if edge, is, err := Check(g, c, tab, b); edge != max(want, -1) || is != (want == -1) || err != nil {
			t.Fatal(g, tab, b, edge, is, err, want)
		}
		seen[min(want, 0)]++
	}
	for want := -2; want < 1; want++ {
		if seen[want] < 40 {
			t.Error(seen)
		}
	}
}

// holds a row for all that makes a polyhedron?
func holds(t *testing.T, p api.Poly, r api.Row) bool {
	t.Helper()
	g, err := poly.Generate(p)
	if err != nil {
		t.Fatal(p, err)
	}
	sum := func(x []int) int {
		n := 0
		for i := range x {
			n += x[i] * r.A[i]
		}
		return n
	}
	fails := func(n int) bool { return n < 0 || r.Eq && n != 0 }
	if len(g.Points) == 0 {
		return true
	}
	for _, x := range g.Points {
		if fails(sum(x.X) - r.B*x.Den) {
			return false
		}
	}
	for _, x := range g.Rays {
		if fails(sum(x)) {
			return false
		}
	}
	return !slices.ContainsFunc(g.Lines, func(x []int) bool { return sum(x) != 0 })
}

// claim at random, often a row that holds, or nearly so.
func (m maker) claim(tab []api.Poly) Claim {
	x := Claim{Point: m.Intn(len(tab))}
	p := tab[x.Point]
	x.Row = api.Row{Eq: m.Intn(3) == 0, A: make([]int, p.Dim), B: m.Intn(9) - 6}
	if len(p.Rows) == 0 || m.Intn(3) == 0 {
		for i := range x.Row.A {
			x.Row.A[i] = m.Intn(3) - 1
		}
		return x
	}
	x.Row.B = m.Intn(2) - m.Intn(2)
	for range 1 + m.Intn(2) {
		r := p.Rows[m.Intn(len(p.Rows))]
		for i, n := range r.A {
			x.Row.A[i] += n
		}
		x.Row.B += r.B
	}
	return x
}

// P173: a row follows just if it holds for all points.
func TestClaimsAlways(t *testing.T) {
	m := makerOf(173)
	seen := map[[2]bool]int{}
	for range 500 {
		g, c := m.graph(t), chosen(m.of(4))
		tab := m.table(t, g, c)
		if _, _, err := hull.Holds(g, c, tab); err != nil {
			continue
		}
		var l []Claim
		for range 6 {
			l = append(l, m.claim(tab))
		}
		told, err := Claims(g, c, tab, l)
		if err != nil || len(told) != len(l) {
			t.Fatal(g, tab, l, told, err)
		}
		for i, x := range l {
			if want := holds(t, tab[x.Point], x.Row); told[i] != want {
				t.Fatal(g, tab, x, told[i])
			}
			seen[[2]bool{x.Row.Eq, told[i]}]++
		}
	}
	if len(seen) != 4 || slices.Min([]int{seen[[2]bool{}], seen[[2]bool{true, true}], seen[[2]bool{true}], seen[[2]bool{false, true}]}) < 100 {
		t.Error(seen)
	}
}

// P2: the same is answered, also side by side.
func TestSideBySide(t *testing.T) {
	m := makerOf(2)
	type one struct {
		g      flow.Graph
		c      hull.Choice
		tab    []api.Poly
		b      Book
		claims []Claim
		told   []bool
	}
	var all []one
	for range 30 {
		o := one{g: m.graph(t), c: chosen(m.of(4))}
		var errs [3]error
		o.tab, errs[0] = hull.Scan(o.g, o.c)
		o.b, errs[1] = Prove(o.g, o.c, o.tab)
		for range 5 {
			o.claims = append(o.claims, m.claim(o.tab))
		}
		o.told, errs[2] = Claims(o.g, o.c, o.tab, o.claims)
		if err := errors.Join(errs[:]...); err != nil {
			t.Fatal(o, err)
		}
		all = append(all, o)
	}
	var wait sync.WaitGroup
	for range 8 {
		wait.Go(func() {
			for _, o := range all {
				if b, err := Prove(o.g, o.c, o.tab); !reflect.DeepEqual(b, o.b) || err != nil {
					t.Error(o.g, b, err)
				}
				if edge, is, err := Check(o.g, o.c, o.tab, o.b); edge != -1 || !is || err != nil {
					t.Error(o.g, edge, is, err)
				}
				if told, err := Claims(o.g, o.c, o.tab, o.claims); !slices.Equal(told, o.told) || err != nil {
					t.Error(o.g, told, err)
				}
			}
		})
	}
	wait.Wait()
}

// eachNumber of a book, and of all memory that its lists have.
func eachNumber(b Book, see func(n *int)) {
	lists := append(slices.Clone(b.Edges[:cap(b.Edges)]), b.First)
	for _, l := range lists {
		l = l[:cap(l)]
		for i := range l {
			w := l[i].Weights[:cap(l[i].Weights)]
			for k := range w {
				see(&w[k])
			}
			see(&l[i].Den)
		}
	}
}

// P4: answers are new memory, no two lists of one share any; what is handed over is only read, and nothing behind its length.
func TestMemory(t *testing.T) {
	g, c, tab, byHand := byHand(t)
	b, err := Prove(g, c, tab)
	if err != nil {
		t.Fatal(err)
	}
	n := 0
	eachNumber(b, func(at *int) { n++; *at = n })
	n = 0
	eachNumber(b, func(at *int) {
		if n++; *at != n {
			t.Fatal(b)
		}
	})
	if b, err := Prove(g, c, tab); err != nil || unproved(t, g, c, tab, b) != -1 {
		t.Error(b, err)
	}
	wide := behind(tab)
	was := allOf(wide)
	long := append(slices.Clone(c), 77)
	proofs := append(slices.Clone(byHand.Edges), []farkas.Proof{by(0)})
	claims := []Claim{{1, api.Row{Eq: true, A: []int{1, 0, 99}[:2], B: 5}}, {Point: 99}}
	if edge, is, err := Check(g, long[:2], wide[:5], Book{byHand.First, proofs[:4]}); edge != -1 || !is || err != nil {
		t.Error(edge, is, err)
	}
	if b, err := Prove(g, long[:2], wide[:5]); err != nil || unproved(t, g, c, tab, b) != -1 {
		t.Error(b, err)
	}
	told, err := Claims(g, long[:2], wide[:5], claims[:1])
	if !slices.Equal(told, []bool{true}) || err != nil {
		t.Error(told, err)
	}
	if now := allOf(wide); now != was || long[2] != 77 || proofs[4][0].Den != 0 || claims[1].Point != 99 || claims[0].Row.A[:3][2] != 99 {
		t.Error(now, was, long, proofs, claims)
	}
}

// behind each list of a table stands what is no part of it, and would be wrong.
func behind(tab []api.Poly) []api.Poly {
	bad := api.Row{A: []int{1, 2, 3}, B: math.MaxInt}
	var out []api.Poly
	for _, p := range tab {
		var rows []api.Row
		for _, r := range p.Rows {
			rows = append(rows, api.Row{Eq: r.Eq, A: append(slices.Clone(r.A), 99)[:len(r.A)], B: r.B})
		}
		out = append(out, api.Poly{Dim: p.Dim, Rows: append(rows, bad)[:len(rows)]})
	}
	return append(out, api.Poly{Dim: 9, Rows: []api.Row{bad}})[:len(out)]
}

// allOf a table, with one more behind each list.
func allOf(tab []api.Poly) string {
	s := ""
	for _, p := range tab[:len(tab)+1] {
		s += fmt.Sprintln(p.Dim)
		for _, r := range p.Rows[:min(len(p.Rows)+1, cap(p.Rows))] {
			s += fmt.Sprintln(r.Eq, r.B, r.A[:min(len(r.A)+1, cap(r.A))])
		}
	}
	return s
}

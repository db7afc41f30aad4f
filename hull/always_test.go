package hull

import (
	"reflect"
	"slices"
	"sync"
	"testing"

	"raycone/api"
	"raycone/flow"
	"raycone/lang"
	"raycone/machine"
	"raycone/ops"
	"raycone/poly"
)

// isForm: as answers are.
func isForm(t *testing.T, c Choice, p api.Poly) bool {
	t.Helper()
	form, err := poly.Form(p)
	if err != nil {
		t.Fatal(p, err)
	}
	return p.Dim == len(c) && same(p, form)
}

func isEmpty(p api.Poly) bool {
	return len(p.Rows) == 1 && same(p, api.Poly{Dim: p.Dim, Rows: []api.Row{{A: make([]int, p.Dim), B: 1}}})
}

// P162: whatever an act makes is of what is told, whatever the other variables and arrays are.
func TestGoAlways(t *testing.T) {
	m := makerOf(164)
	rights, nones := map[string]int{}, 0
	for range 6000 {
		c := chosen(m.of(5))
		p, l := m.state(c)
		g, act := names(), m.act(t)
		to, err := Go(g, c, p, act)
		if err != nil || !isForm(t, c, to) {
			t.Fatal(p, act, to, err)
		}
		if isEmpty(to) {
			nones++
		}
		g.Edges = []flow.Edge{{Act: act}}
		for range 2 {
			for _, v := range l {
				next, err := flow.Steps(g, 0, v.vars, v.arrays, v.input)
				if err != nil {
					t.Fatal(err)
				}
				for _, n := range next {
					rights[act.Kind]++
					if !has(t, c, to, n.Vars) {
						t.Fatal(c, p, act, v, "is", n, "told", to)
					}
				}
				// What is not chosen makes no difference.
				other := m.values()
				for n := range v.vars {
					if !slices.Contains(c, n) {
						v.vars[n] = other.vars[n]
					}
				}
				copy(v.arrays, other.arrays)
			}
		}
	}
	for _, kind := range []string{"skip", "read", "set", "put", "test", "fail"} {
		if rights[kind] < 500 {
			t.Error(rights)
		}
	}
	if nones < 50 {
		t.Error(nones)
	}
}

// walk at random from point 0, all 0: see is told each point, its values, and the edge that led there (-1: none).
func (m maker) walk(t *testing.T, g flow.Graph, most int, see func(at int, vars []int, by int)) {
	t.Helper()
	at, by, vars := 0, -1, make([]int, len(g.Vars))
	arrays := make([][]int, len(g.Arrays))
	for i, a := range g.Arrays {
		arrays[i] = make([]int, a.Size)
	}
	for range most {
		see(at, vars, by)
		l, err := flow.Steps(g, at, vars, arrays, m.number())
		if err != nil {
			t.Fatal(err)
		}
		if len(l) == 0 {
			return
		}
		next := l[m.Intn(len(l))]
		at, by, vars, arrays = next.To, next.Edge, next.Vars, next.Arrays
	}
}

// leadsNowhere: Go tells nothing of the edge.
func leadsNowhere(t *testing.T, g flow.Graph, c Choice, tab []api.Poly, edge int) bool {
	t.Helper()
	e := g.Edges[edge]
	p, err := Go(g, c, tab[e.From], e.Act)
	if err != nil {
		t.Fatal(err)
	}
	return isEmpty(p)
}

// checkScan of a graph: the table holds, is nothing where no way leads, has all that is come to, and where one edge leads just what comes along it.
func (m maker) checkScan(t *testing.T, g flow.Graph, c Choice) []api.Poly {
	t.Helper()
	tab, err := Scan(g, c)
	if err != nil || len(tab) != g.Points {
		t.Fatal(g, tab, err)
	}
	if edge, ok, err := Holds(g, c, tab); edge != -1 || !ok || err != nil {
		t.Fatal(g, c, tab, edge, ok, err)
	}
	order, _ := flow.Order(g)
	for at, p := range tab {
		if !isForm(t, c, p) || poly.Valid(p) != nil || !slices.Contains(order, at) && !isEmpty(p) {
			t.Fatal(g, at, p)
		}
	}
	m.checkSingles(t, g, c, tab)
	m.checkWalks(t, g, c, tab)
	return tab
}

func (m maker) checkSingles(t *testing.T, g flow.Graph, c Choice, tab []api.Poly) {
	t.Helper()
	ins := make([][]flow.Edge, g.Points)
	for _, e := range g.Edges {
		ins[e.To] = append(ins[e.To], e)
	}
	for at := 1; at < g.Points; at++ {
		if len(ins[at]) != 1 {
			continue
		}
		if p, err := Go(g, c, tab[ins[at][0].From], ins[at][0].Act); !same(p, tab[at]) || err != nil {
			t.Fatal(g, c, at, p, err, tab[at])
		}
	}
}

func (m maker) checkWalks(t *testing.T, g flow.Graph, c Choice, tab []api.Poly) {
	t.Helper()
	for range 3 {
		m.walk(t, g, 25, func(at int, vars []int, by int) {
			if !has(t, c, tab[at], vars) || by >= 0 && leadsNowhere(t, g, c, tab, by) {
				t.Fatal(g, c, at, vars, by, tab[at])
			}
		})
	}
}

// P163, P164: tables of programs hold, and have each state of runs; where no edge fail leads anywhere, no run fails.
func TestScanPrograms(t *testing.T) {
	m := makerOf(163)
	seen := map[string]int{}
	m.graphs(t, 300, func(p lang.Program, g flow.Graph) {
		c := chosen(m.of(5))
		tab := m.checkScan(t, g, c)
		safe, fails := true, false
		for i, e := range g.Edges {
			if e.Act.Kind == "fail" {
				fails = true
				safe = safe && leadsNowhere(t, g, c, tab, i)
			}
		}
		for range 5 {
			input := make([]int, m.Intn(4))
			for i := range input {
				input[i] = m.number()
			}
			end, err := machine.Run(p, input, 100)
			if err != nil || safe && end.Kind == "failed" {
				t.Fatal(p, input, end, err)
			}
			seen[end.Kind]++
			if end.Kind == "done" && !has(t, c, tab[g.Points-1], end.Vars) {
				t.Fatal(p, input, end, tab[g.Points-1])
			}
		}
		if safe && fails {
			seen["safe"]++
		}
	})
	for _, kind := range []string{"done", "stuck", "failed", "wrong", "tired", "safe"} {
		if seen[kind] < 20 {
			t.Error(seen)
		}
	}
}

// P163: graphs that no program has.
func TestScanWild(t *testing.T) {
	m := makerOf(1630)
	for range 400 {
		m.checkScan(t, m.wild(t), chosen(m.of(5)))
	}
}

// changed table: a few polyhedra are wider or less wide, or others.
func (m maker) changed(c Choice, tab []api.Poly) []api.Poly {
	out := slices.Clone(tab)
	for range m.Intn(4) {
		p := &out[m.Intn(len(out))]
		other, _ := m.state(c)
		to, err := other, error(nil)
		switch n := m.Intn(9); {
		case n == 0:
			to = api.Poly{Dim: len(c), Rows: []api.Row{{A: make([]int, len(c)), B: 1}}}
		case n < 5:
			to, err = ops.Join(*p, other)
		case n < 7:
			to, err = ops.Widen(*p, other, nil)
		case n < 8:
			to, err = ops.Meet(*p, other)
		}
		if err == nil && poly.Valid(to) == nil {
			*p = to
		}
	}
	return out
}

// lacking: the first edge of which a table lacks something, by Go; -2: point 0.
func lacking(t *testing.T, g flow.Graph, c Choice, tab []api.Poly) (int, error) {
	t.Helper()
	if !has(t, c, tab[0], make([]int, 5)) {
		return -2, nil
	}
	for i, e := range g.Edges {
		p, err := Go(g, c, tab[e.From], e.Act)
		if err != nil || poly.Valid(p) != nil {
			return i, api.ErrBound
		}
		if !isWithin(t, p, tab[e.To]) {
			return i, nil
		}
	}
	return -1, nil
}

// P163, P164: which tables hold, whoever made them; those that do have all that is come to.
func TestHoldsAlways(t *testing.T) {
	m := makerOf(1640)
	seen := map[int]int{}
	for range 800 {
		g, c := m.wild(t), chosen(m.of(5))
		tab, err := Scan(g, c)
		if err != nil {
			t.Fatal(err)
		}
		tab = m.changed(c, tab)
		want, wrong := lacking(t, g, c, tab)
		edge, ok, err := Holds(g, c, tab)
		if wrong != nil {
			if edge != 0 || ok || err != wrong {
				t.Fatal(g, tab, edge, ok, err)
			}
			continue
		}
		seen[min(want, 1)]++
		if ok != (want == -1) || edge != max(want, -1) || err != nil {
			t.Fatal(g, tab, edge, ok, err, "want", want)
		}
		if ok {
			m.checkWalks(t, g, c, tab)
		}
	}
	for want := -2; want < 2; want++ {
		if seen[want] < 30 {
			t.Error(seen)
		}
	}
}

// P2: the same is answered, also side by side.
func TestSideBySide(t *testing.T) {
	m := makerOf(2)
	type one struct {
		g   flow.Graph
		c   Choice
		tab []api.Poly
	}
	var all []one
	for range 40 {
		o := one{g: m.wild(t), c: chosen(m.of(5))}
		var err error
		if o.tab, err = Scan(o.g, o.c); err != nil {
			t.Fatal(err)
		}
		all = append(all, o)
	}
	var wait sync.WaitGroup
	for range 8 {
		wait.Go(func() {
			for _, o := range all {
				tab, err := Scan(o.g, o.c)
				if !reflect.DeepEqual(tab, o.tab) || err != nil {
					t.Error(o.g, err)
				}
				if edge, ok, err := Holds(o.g, o.c, o.tab); edge != -1 || !ok || err != nil {
					t.Error(o.g, edge, ok, err)
				}
			}
		})
	}
	wait.Wait()
}

package relate

import (
	"math/rand"
	"reflect"
	"slices"
	"sync"
	"testing"

	"raycone/flow"
	"raycone/lang"
	"raycone/machine"
	"raycone/octagon"
)

// isTold: as answers are: nothing else with None, else a tight octagon of the choice.
func isTold(c Choice, s State) bool {
	if s.None {
		return s.Oct.N == 0 && len(s.Oct.L) == 0
	}
	closed, ok, err := octagon.Close(s.Oct)
	return ok && err == nil && s.Oct.N == len(c) && same(s, State{Oct: closed})
}

// P151: whatever an act makes is of what is told, whatever the other variables and arrays are.
func TestGoAlways(t *testing.T) {
	m := maker{rand.New(rand.NewSource(152))}
	rights, nones := map[string]int{}, 0
	for range 12000 {
		c := chosen(m.of(4))
		s, l := m.state(c)
		g, act := names(), m.act(t)
		to, err := Go(g, c, s, act)
		if err != nil || !isTold(c, to) {
			t.Fatal(s, act, to, err)
		}
		if to.None {
			nones++
		}
		g.Edges = []flow.Edge{{Act: act}}
		for range 2 {
			for _, v := range l {
				next, err := flow.Steps(g, 0, v.vars, v.arrays, v.input)
				if err != nil {
					t.Fatal(err)
				}
				for _, n := range next {
					rights[act.Kind]++
					if !has(t, c, to, n.Vars) {
						t.Fatal(c, s, act, v, "is", n, "told", to)
					}
				}
				// What is not chosen makes no difference.
				other := m.values()
				for n := range v.vars {
					if !slices.Contains(c, n) {
						v.vars[n] = other.vars[n]
					}
				}
				copy(v.arrays, other.arrays)
			}
		}
	}
	for _, kind := range []string{"skip", "read", "set", "put", "test", "fail"} {
		if rights[kind] < 500 {
			t.Error(rights)
		}
	}
	if nones < 500 {
		t.Error(nones)
	}
}

// walk at random from point 0, all 0: see is told each point, its values, and the edge that led there (-1: none).
func (m maker) walk(t *testing.T, g flow.Graph, most int, see func(at int, vars []int, by int)) {
	t.Helper()
	at, by, vars := 0, -1, make([]int, len(g.Vars))
	arrays := make([][]int, len(g.Arrays))
	for i, a := range g.Arrays {
		arrays[i] = make([]int, a.Size)
	}
	for range most {
		see(at, vars, by)
		l, err := flow.Steps(g, at, vars, arrays, m.number())
		if err != nil {
			t.Fatal(err)
		}
		if len(l) == 0 {
			return
		}
		next := l[m.Intn(len(l))]
		at, by, vars, arrays = next.To, next.Edge, next.Vars, next.Arrays
	}
}

// leadsNowhere: Go tells None of the edge.
func leadsNowhere(t *testing.T, g flow.Graph, c Choice, tab Table, edge int) bool {
	t.Helper()
	e := g.Edges[edge]
	s, err := Go(g, c, tab[e.From], e.Act)
	if err != nil {
		t.Fatal(err)
	}
	return s.None
}

// checkScan of a graph: the table holds, is None where no way leads, and has all that is come to.
func (m maker) checkScan(t *testing.T, g flow.Graph, c Choice) Table {
	t.Helper()
	tab, err := Scan(g, c)
	if err != nil || len(tab) != g.Points {
		t.Fatal(g, tab, err)
	}
	if edge, ok, err := Holds(g, c, tab); edge != -1 || !ok || err != nil {
		t.Fatal(g, c, tab, edge, ok, err)
	}
	order, _ := flow.Order(g)
	for at, s := range tab {
		if !isTold(c, s) || !slices.Contains(order, at) && !s.None {
			t.Fatal(g, at, s)
		}
	}
	m.checkWalks(t, g, c, tab)
	return tab
}

func (m maker) checkWalks(t *testing.T, g flow.Graph, c Choice, tab Table) {
	t.Helper()
	for range 3 {
		m.walk(t, g, 25, func(at int, vars []int, by int) {
			if !has(t, c, tab[at], vars) || by >= 0 && leadsNowhere(t, g, c, tab, by) {
				t.Fatal(g, c, at, vars, by, tab[at])
			}
		})
	}
}

// P152, P153: tables of programs hold, and have each state of runs; where no edge fail leads anywhere, no run fails.
func TestScanPrograms(t *testing.T) {
	m := maker{rand.New(rand.NewSource(153))}
	seen := map[string]int{}
	m.graphs(t, 400, func(p lang.Program, g flow.Graph) {
		c := chosen(m.of(4))
		tab := m.checkScan(t, g, c)
		safe, fails := true, false
		for i, e := range g.Edges {
			if e.Act.Kind == "fail" {
				fails = true
				safe = safe && leadsNowhere(t, g, c, tab, i)
			}
		}
		for range 5 {
			input := make([]int, m.Intn(4))
			for i := range input {
				input[i] = m.number()
			}
			end, err := machine.Run(p, input, 100)
			if err != nil || safe && end.Kind == "failed" {
				t.Fatal(p, input, end, err)
			}
			seen[end.Kind]++
			if end.Kind == "done" && !has(t, c, tab[g.Points-1], end.Vars) {
				t.Fatal(p, input, end, tab[g.Points-1])
			}
		}
		if safe && fails {
			seen["safe"]++
		}
	})
	for _, kind := range []string{"done", "stuck", "failed", "wrong", "tired", "safe"} {
		if seen[kind] < 20 {
			t.Error(seen)
		}
	}
}

// P152: graphs that no program has.
func TestScanWild(t *testing.T) {
	m := maker{rand.New(rand.NewSource(1520))}
	for range 500 {
		m.checkScan(t, m.wild(t), chosen(m.of(4)))
	}
}

// changed table: a few octagons are wider or less wide, a state is None or is not.
func (m maker) changed(c Choice, tab Table) Table {
	out := slices.Clone(tab)
	for range m.Intn(4) {
		s := &out[m.Intn(len(out))]
		other, _ := m.state(c)
		switch n := m.Intn(9); {
		case n == 0:
			s.None = true
		case s.None || n == 1:
			*s = other
		case n < 5:
			s.Oct, _ = octagon.Join(s.Oct, other.Oct)
		case n < 7:
			s.Oct, _ = octagon.Widen(s.Oct, other.Oct)
		default:
			if o, ok, _ := octagon.Meet(s.Oct, other.Oct); ok {
				s.Oct = o
			}
		}
	}
	return out
}

// lacking: the first edge of which a table lacks something, by Go; -2: point 0.
func lacking(t *testing.T, g flow.Graph, c Choice, tab Table) int {
	t.Helper()
	if !has(t, c, tab[0], []int{0, 0, 0, 0}) {
		return -2
	}
	for i, e := range g.Edges {
		s, err := Go(g, c, tab[e.From], e.Act)
		if err != nil {
			t.Fatal(err)
		}
		to := tab[e.To]
		if s.None {
			continue
		}
		if to.None {
			return i
		}
		if is, err := octagon.Within(s.Oct, to.Oct); !is || err != nil {
			return i
		}
	}
	return -1
}

// P152, P153: which tables hold, whoever made them; those that do have all that is come to.
func TestHoldsAlways(t *testing.T) {
	m := maker{rand.New(rand.NewSource(154))}
	seen := map[int]int{}
	for range 1000 {
		g, c := m.wild(t), chosen(m.of(4))
		tab, err := Scan(g, c)
		if err != nil {
			t.Fatal(err)
		}
		tab = m.changed(c, tab)
		want := lacking(t, g, c, tab)
		seen[min(want, 1)]++
		edge, ok, err := Holds(g, c, tab)
		if ok != (want == -1) || edge != max(want, -1) || err != nil {
			t.Fatal(g, tab, edge, ok, err, "want", want)
		}
		if ok {
			m.checkWalks(t, g, c, tab)
		}
	}
	for want := -2; want < 2; want++ {
		if seen[want] < 30 {
			t.Error(seen)
		}
	}
}

// P2: the same is answered, also side by side.
func TestSideBySide(t *testing.T) {
	m := maker{rand.New(rand.NewSource(2))}
	type one struct {
		g   flow.Graph
		c   Choice
		tab Table
	}
	var all []one
	for range 60 {
		o := one{g: m.wild(t), c: chosen(m.of(4))}
		var err error
		if o.tab, err = Scan(o.g, o.c); err != nil {
			t.Fatal(err)
		}
		all = append(all, o)
	}
	var wait sync.WaitGroup
	for range 8 {
		wait.Go(func() {
			for _, o := range all {
				tab, err := Scan(o.g, o.c)
				if !reflect.DeepEqual(tab, o.tab) || err != nil {
					t.Error(o.g, err)
				}
				if edge, ok, err := Holds(o.g, o.c, o.tab); edge != -1 || !ok || err != nil {
					t.Error(o.g, edge, ok, err)
				}
			}
		})
	}
	wait.Wait()
}

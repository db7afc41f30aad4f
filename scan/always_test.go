package scan

import (
	"math/rand"
	"reflect"
	"slices"
	"sync"
	"testing"

	"raycone/api"
	"raycone/flow"
	"raycone/interval"
	"raycone/lang"
	"raycone/machine"
)

// has a state all these values?
func has(s State, vars []int, arrays [][]int) bool {
	if s.None {
		return false
	}
	for i, n := range vars {
		if !interval.Has(s.Vars[i], n) {
			return false
		}
	}
	for i, l := range arrays {
		if slices.ContainsFunc(l, func(n int) bool { return !interval.Has(s.Arrays[i], n) }) {
			return false
		}
	}
	return true
}

// doing an act on values: what comes, if the machine takes it.
func doing(t *testing.T, a flow.Act, vars []int, arrays [][]int, input int) (flow.Next, bool) {
	t.Helper()
	g := names()
	g.Edges = []flow.Edge{{Act: a}}
	l, err := flow.Steps(g, 0, vars, arrays, input)
	if err != nil {
		t.Fatal(err)
	}
	if len(l) == 0 {
		return flow.Next{}, false
	}
	return l[0], true
}

// P141: whatever a term comes to is told; where it is told that always something is wrong, it is.
func TestEvalAlways(t *testing.T) {
	m := maker{rand.New(rand.NewSource(141))}
	rights, wrongs, nones := 0, 0, 0
	for range 7000 {
		s := m.state()
		act := actOf(t, "x="+m.term(1+m.Intn(3))+";")
		a, ok, err := Eval(names(), s, act.Args[0])
		if err != nil || interval.Valid(a) != nil || !ok && a != (api.Interval{}) {
			t.Fatal(a, ok, err)
		}
		if !ok {
			nones++
		}
		for range 6 {
			vars, arrays := m.values(s)
			next, right := doing(t, act, vars, arrays, 0)
			switch {
			case !right:
				wrongs++
			case !ok || !interval.Has(a, next.Vars[0]):
				t.Fatal(saidState(s), act, vars, arrays, "is", next.Vars[0], "told", said(a), ok)
			default:
				rights++
			}
		}
	}
	if rights < 5000 || wrongs < 5000 || nones < 500 {
		t.Error(rights, wrongs, nones)
	}
}

// P142: whatever an act makes is of what is told.
func TestGoAlways(t *testing.T) {
	m := maker{rand.New(rand.NewSource(142))}
	rights, nones := map[string]int{}, 0
	for range 9000 {
		s, act := m.state(), m.act(t)
		to, err := Go(names(), s, act)
		if err != nil || !to.fits(names()) || to.wrong() != nil {
			t.Fatal(saidState(s), act, to, err)
		}
		if to.None {
			nones++
		}
		for range 6 {
			vars, arrays := m.values(s)
			next, right := doing(t, act, vars, arrays, m.number())
			if !right {
				continue
			}
			rights[act.Kind]++
			if !has(to, next.Vars, next.Arrays) {
				t.Fatal(saidState(s), act, vars, arrays, "is", next, "told", saidState(to))
			}
		}
	}
	for _, kind := range []string{"skip", "read", "set", "put", "test", "fail"} {
		if rights[kind] < 500 {
			t.Error(rights)
		}
	}
	if nones < 500 {
		t.Error(nones)
	}
}

// P142: small things are gone through one by one.
func TestGoSmall(t *testing.T) {
	m := maker{rand.New(rand.NewSource(1420))}
	for range 2000 {
		s := State{Vars: make([]api.Interval, 3), Arrays: make([]api.Interval, 2)}
		for i := range s.Vars {
			low := m.Intn(7) - 4
			s.Vars[i] = api.Interval{Low: low, High: low + m.Intn(4)}
		}
		act := m.act(t)
		if act.Kind == "read" {
			continue
		}
		to, err := Go(names(), s, act)
		if err != nil {
			t.Fatal(err)
		}
		for x := s.Vars[0].Low; x <= s.Vars[0].High; x++ {
			for y := s.Vars[1].Low; y <= s.Vars[1].High; y++ {
				for z := s.Vars[2].Low; z <= s.Vars[2].High; z++ {
					next, right := doing(t, act, []int{x, y, z}, [][]int{{0, 0, 0}, {0}}, 0)
					if right && !has(to, next.Vars, next.Arrays) {
						t.Fatal(saidState(s), act, x, y, z, "is", next, "told", saidState(to))
					}
				}
			}
		}
	}
}

// walk at random from point 0, all 0: see is told each point, its values, and the edge that led there (-1: none).
func (m maker) walk(t *testing.T, g flow.Graph, most int, see func(at int, vars []int, arrays [][]int, by int)) {
	t.Helper()
	at, by, vars := 0, -1, make([]int, len(g.Vars))
	arrays := make([][]int, len(g.Arrays))
	for i, a := range g.Arrays {
		arrays[i] = make([]int, a.Size)
	}
	for range most {
		see(at, vars, arrays, by)
		l, err := flow.Steps(g, at, vars, arrays, m.number())
		if err != nil {
			t.Fatal(err)
		}
		if len(l) == 0 {
			return
		}
		next := l[m.Intn(len(l))]
		at, by, vars, arrays = next.To, next.Edge, next.Vars, next.Arrays
	}
}

func (m maker) stops() []int {
	l := make([]int, m.Intn(21))
	for i := range l {
		l[i] = m.number()
	}
	return l
}

// leadsNowhere: Go tells None of the edge.
func leadsNowhere(t *testing.T, g flow.Graph, tab Table, edge int) bool {
	t.Helper()
	e := g.Edges[edge]
	s, err := Go(g, tab[e.From], e.Act)
	if err != nil {
		t.Fatal(err)
	}
	return s.None
}

// checkScan of a graph: the table is valid and holds, is None where no way leads, and has all that is come to.
func (m maker) checkScan(t *testing.T, g flow.Graph) Table {
	t.Helper()
	tab, err := Scan(g, m.stops())
	if err != nil || Valid(g, tab) != nil {
		t.Fatal(g, tab, err)
	}
	if edge, ok, err := Holds(g, tab); edge != -1 || !ok || err != nil {
		t.Fatal(g, tab, edge, ok, err)
	}
	order, _ := flow.Order(g)
	for at, s := range tab {
		if !slices.Contains(order, at) && !s.None {
			t.Fatal(g, at, s)
		}
	}
	m.checkWalks(t, g, tab)
	return tab
}

func (m maker) checkWalks(t *testing.T, g flow.Graph, tab Table) {
	t.Helper()
	for range 3 {
		m.walk(t, g, 25, func(at int, vars []int, arrays [][]int, by int) {
			if !has(tab[at], vars, arrays) || by >= 0 && leadsNowhere(t, g, tab, by) {
				t.Fatal(g, at, vars, arrays, by, saidState(tab[at]))
			}
		})
	}
}

// P144, P145: tables of programs hold, and have each state of runs; where no edge fail leads anywhere, no run fails.
func TestScanPrograms(t *testing.T) {
	m := maker{rand.New(rand.NewSource(144))}
	seen := map[string]int{}
	m.graphs(t, 300, func(p lang.Program, g flow.Graph) {
		tab := m.checkScan(t, g)
		safe := true
		for i, e := range g.Edges {
			safe = safe && (e.Act.Kind != "fail" || leadsNowhere(t, g, tab, i))
		}
		for range 5 {
			input := make([]int, m.Intn(4))
			for i := range input {
				input[i] = m.number()
			}
			end, err := machine.Run(p, input, 100)
			if err != nil || safe && end.Kind == "failed" {
				t.Fatal(p, input, end, err)
			}
			seen[end.Kind]++
			if end.Kind == "done" && !has(tab[g.Points-1], end.Vars, end.Arrays) {
				t.Fatal(p, input, end, saidState(tab[g.Points-1]))
			}
		}
		if safe && slices.ContainsFunc(g.Edges, func(e flow.Edge) bool { return e.Act.Kind == "fail" }) {
			seen["safe"]++
		}
	})
	for _, kind := range []string{"done", "stuck", "failed", "wrong", "tired", "safe"} {
		if seen[kind] < 20 {
			t.Error(seen)
		}
	}
}

// P144: graphs that no program has.
func TestScanWild(t *testing.T) {
	m := maker{rand.New(rand.NewSource(1440))}
	for range 600 {
		m.checkScan(t, m.wild(t))
	}
}

// changed table: a few intervals are wider or less wide, a state is None or is not.
func (m maker) changed(tab Table) Table {
	out := make(Table, len(tab))
	for i, s := range tab {
		out[i] = s.fresh()
	}
	for range m.Intn(4) {
		s := &out[m.Intn(len(out))]
		switch n := m.Intn(9); {
		case n == 0:
			*s = State{None: true}
		case s.None || n == 1:
			*s = m.state()
		case n < 5:
			a := &s.Vars[m.Intn(3)]
			*a, _ = interval.Join(*a, m.interval())
		default:
			a := &[][]api.Interval{s.Vars, s.Arrays}[m.Intn(2)][0]
			if x, ok, _ := interval.Meet(*a, m.interval()); ok {
				*a = x
			}
		}
	}
	return out
}

// lacking: the first edge of which a table lacks something, by Go; -2: point 0.
func lacking(t *testing.T, g flow.Graph, tab Table) int {
	t.Helper()
	if !has(tab[0], []int{0, 0, 0}, [][]int{{0, 0, 0}, {0}}) {
		return -2
	}
	for i, e := range g.Edges {
		s, err := Go(g, tab[e.From], e.Act)
		if err != nil {
			t.Fatal(err)
		}
		to := tab[e.To]
		if s.None {
			continue
		}
		if to.None {
			return i
		}
		for j, a := range slices.Concat(s.Vars, s.Arrays) {
			if is, _ := interval.Within(a, slices.Concat(to.Vars, to.Arrays)[j]); !is {
				return i
			}
		}
	}
	return -1
}

// P143, P145: which tables hold, whoever made them; those that do have all that is come to.
func TestHoldsAlways(t *testing.T) {
	m := maker{rand.New(rand.NewSource(143))}
	seen := map[int]int{}
	for range 800 {
		g := m.wild(t)
		tab, err := Scan(g, nil)
		if err != nil {
			t.Fatal(err)
		}
		tab = m.changed(tab)
		want := lacking(t, g, tab)
		seen[min(want, 1)]++
		edge, ok, err := Holds(g, tab)
		if ok != (want == -1) || edge != max(want, -1) || err != nil {
			t.Fatal(g, tab, edge, ok, err, "want", want)
		}
		if ok {
			m.checkWalks(t, g, tab)
		}
	}
	for want := -2; want < 2; want++ {
		if seen[want] < 30 {
			t.Error(seen)
		}
	}
}

// P2: the same is answered, also side by side.
func TestSideBySide(t *testing.T) {
	m := maker{rand.New(rand.NewSource(2))}
	type one struct {
		g     flow.Graph
		stops []int
		tab   Table
	}
	var all []one
	for range 60 {
		c := one{g: m.wild(t), stops: m.stops()}
		var err error
		if c.tab, err = Scan(c.g, c.stops); err != nil {
			t.Fatal(err)
		}
		all = append(all, c)
	}
	var wait sync.WaitGroup
	for range 8 {
		wait.Go(func() {
			for _, c := range all {
				tab, err := Scan(c.g, c.stops)
				if !reflect.DeepEqual(tab, c.tab) || err != nil {
					t.Error(c.g, err)
				}
				if edge, ok, err := Holds(c.g, c.tab); edge != -1 || !ok || err != nil {
					t.Error(c.g, edge, ok, err)
				}
			}
		})
	}
	wait.Wait()
}

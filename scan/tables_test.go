package scan

import (
	"math"
	"slices"
	"strings"
	"testing"
	"time"

	"raycone/api"
	"raycone/flow"
	"raycone/lang"
)

// P144: what is told of a few programs at their last point: it may be more that holds, but not without need.
func TestScan(t *testing.T) {
	for _, c := range []struct {
		main  string
		stops []int
		want  string
	}{
		{"", nil, "0 0 0 0 0"},
		{"x=5;a[1]=7;b[0]=2;", nil, "5 0 0 0..7 2"},
		{"read x;", nil, "-M..M 0 0 0 0"},
		{"read x;if x<0{x=-x;}assume x<9;", nil, "0..8 0 0 0 0"},
		{"assume false;", nil, "none"},
		{"assume x>0;", nil, "none"},
		{"while true{}", nil, "none"},
		{"while x<10{x=x+1;}", nil, "10 0 0 0 0"},
		{"while x<10{x=x+1;}", []int{3, 20}, "10 0 0 0 0"},
		{"while x<10{x=x+1;y=y+1;}", nil, "10 0..M 0 0 0"},
		{"while x!=10{x=x+1;}", nil, "10 0 0 0 0"},
		{"read y;while x<y{x=x+2;}", nil, "0..M -M..M 0 0 0"},
		{"while x<10{y=0;while y<20{y=y+1;}x=x+1;}", nil, "10 0..20 0 0 0"},
		{"while x<10{y=x;while y>0{y=y-1;}x=x+1;}", nil, "10 0 0 0 0"},
		{"read z;while z>0{z=z-1;if x>=2{x=0;}else{x=x+1;}}", nil, "0..2 0 -M..0 0 0"},
		{"read x;a[x]=1;", nil, "0..2 0 0 0..1 0"},
	} {
		g := built(t, "var x;var y;var z;array a[3];array b[1];main{"+c.main+"}")
		tab, err := Scan(g, c.stops)
		if err != nil || len(tab) != g.Points {
			t.Fatal(c.main, err)
		}
		if got := saidState(tab[g.Points-1]); got != c.want {
			t.Errorf("%s: %s, want %s", c.main, got, c.want)
		}
		if edge, ok, err := Holds(g, tab); edge != -1 || !ok || err != nil {
			t.Error(c.main, edge, ok, err)
		}
	}
}

// P144: stops are where what grows may stop: nothing else would stop it here.
func TestScanStops(t *testing.T) {
	g := built(t, "var x;main{while true{if x<7{x=x+1;}else{if x>90{x=x+1;}}}}")
	for _, c := range []struct {
		stops []int
		most  int
	}{{nil, most}, {[]int{10, 50}, 10}, {[]int{100}, most}} {
		tab, err := Scan(g, c.stops)
		if err != nil || tab[1].Vars[0] != (api.Interval{High: c.most}) {
			t.Error(c, tab[1], err)
		}
	}
}

// P143, P145: an assert of which nothing leads along its edges fail, and one of which something does.
func TestScanAsserts(t *testing.T) {
	for main, safe := range map[string]bool{
		"while x<10{x=x+1;}assert x==10;":          true,
		"while x<10{x=x+1;}assert x==11;":          false,
		"read x;assume x>=0 and x<3;a[x]=2;":       true,
		"read x;assert x<2 or x>=2;":               true,
		"read x;assert x!=0;":                      false,
		"read x;y=x%4;assert y<4 and y>-4;":        true,
		"read x;assume x!=0;y=7/x;assert y<=7;":    true,
		"read x;if x>5{y=1;}else{y=2;}assert y>0;": true,
	} {
		g := built(t, "var x;var y;array a[3];main{"+main+"}")
		tab, err := Scan(g, nil)
		if err != nil {
			t.Fatal(err)
		}
		is := true
		for i, e := range g.Edges {
			is = is && (e.Act.Kind != "fail" || leadsNowhere(t, g, tab, i))
		}
		if is != safe {
			t.Error(main, is)
		}
	}
}

// P140: which tables are valid, and which error comes first.
func TestValid(t *testing.T) {
	g := names()
	g.Points = 3
	ok, none := state("0 1..2 .. 3.. ..4"), State{None: true}
	shape, far := state("0 0 0 0 0"), state("0 0 0 0 0")
	shape.Arrays[1] = api.Interval{Low: 1}
	far.Vars[2] = api.Interval{High: api.MaxBound + 1}
	short, long := state("0 0 0 0 0"), state("0 0 0 0 0 0")
	short.Vars = short.Vars[:2]
	for i, c := range []struct {
		g    flow.Graph
		t    Table
		want error
	}{
		{g, Table{ok, ok, none}, nil},
		{g, Table{none, none, none}, nil},
		{g, Table{{None: true, Vars: []api.Interval{}, Arrays: []api.Interval{}}, none, ok}, nil},
		{g, nil, api.ErrShape},
		{g, Table{ok, ok}, api.ErrShape},
		{g, Table{ok, ok, ok, ok}, api.ErrShape},
		{g, Table{ok, short, ok}, api.ErrShape},
		{g, Table{ok, long, ok}, api.ErrShape},
		{g, Table{ok, {}, ok}, api.ErrShape},
		{g, Table{ok, {None: true, Vars: ok.Vars, Arrays: ok.Arrays}, ok}, api.ErrShape},
		{g, Table{ok, {None: true, Arrays: ok.Arrays[:1]}, ok}, api.ErrShape},
		{g, Table{ok, ok, shape}, api.ErrShape},
		{g, Table{ok, ok, far}, api.ErrBound},
		{g, Table{ok, far, shape}, api.ErrBound},
		{g, Table{ok, shape, far}, api.ErrShape},
		{g, Table{far, ok, short}, api.ErrShape},
		{g, Table{far, ok}, api.ErrShape},
		{flow.Graph{Points: 1}, Table{{}}, nil},
		{flow.Graph{Points: 1}, Table{none}, nil},
		{flow.Graph{Points: 1}, Table{ok}, api.ErrShape},
		{flow.Graph{}, nil, api.ErrShape},
		{flow.Graph{Points: 3, Vars: []string{"x", "x", "z"}, Arrays: g.Arrays}, Table{far, ok, ok}, api.ErrShape},
	} {
		if err := Valid(c.g, c.t); err != c.want {
			t.Error(i, err)
		}
		edge, is, err := Holds(c.g, c.t)
		if err != c.want || err != nil && (edge != 0 || is) {
			t.Error(i, edge, is, err)
		}
	}
}

// P143: edges, and point 0, of which a table lacks something.
func TestHolds(t *testing.T) {
	g := built(t, "var x;var y;var z;array a[3];array b[1];main{x=1;while x<5{x=x+1;}a[0]=x;assert x==y;}")
	good := Table{state("0 0 0 0 0"), state("1 0 0 0 0"), state("1..5 0 0 0 0"), state("1..4 0 0 0 0"), state("2..5 0 0 0 0"), state("5 0 0 0 0"), state("5 0 0 0..5 0"), state("5 0 0 0..5 0"), state("none")}
	for _, c := range []struct {
		point int
		to    string
		edge  int
		is    bool
	}{
		{0, "0 0 0 0 0", -1, true},
		{0, "-1..0 0 0 0 0", -1, true},
		{0, "1 0 0 0 0", -1, false},
		{0, "0 0 0 0 1", -1, false},
		{0, "none", -1, false},
		{1, "0..1 0 0 0 0", 1, false},
		{1, "2 0 0 0 0", 0, false},
		{1, "none", 0, false},
		{2, "1..4 0 0 0 0", 4, false},
		{2, "2..5 0 0 0 0", 1, false},
		{2, "1..6 0 0 0 0", 5, false},
		{2, "..5 0 0 0 0", 2, false},
		{3, "1..4 0..1 0 0 0", 3, false},
		{4, ".. .. .. .. ..", 4, false},
		{5, "5 0 0 1 0", 5, false},
		{6, "5 0 0 5 0", 6, false},
		{6, "5 0 0 0.. 0", 7, false},
		{7, "none", 7, false},
		{8, "0 0 0 0 0", -1, true},
		{8, ".. .. .. .. ..", -1, true},
	} {
		tab := slices.Clone(good)
		tab[c.point] = state(c.to)
		if edge, is, err := Holds(g, tab); edge != c.edge || is != c.is || err != nil {
			t.Error(c, edge, is, err)
		}
	}
}

// P141, P142: names, terms, acts and states that are none.
func TestErrors(t *testing.T) {
	g, s := names(), state("0 0 0 0 0")
	x := lang.Expr{Op: "var", Name: "x"}
	num := func(n int) lang.Expr { return lang.Expr{Op: "num", N: n} }
	deep := num(1)
	for range 12 {
		deep = lang.Expr{Op: "neg", L: []lang.Expr{deep}}
	}
	shared := num(1)
	for range 100 {
		shared = lang.Expr{Op: "+", L: []lang.Expr{shared, shared}}
	}
	shape, far := state("0 0 0 0 0"), state("0 0 0 0 0")
	shape.Vars[1] = api.Interval{Low: 1}
	far.Vars[2] = api.Interval{High: math.MaxInt}
	short := state("0 0 0 0 0")
	short.Arrays = short.Arrays[:1]
	for i, c := range []struct {
		g flow.Graph
		s State
		e lang.Expr
	}{
		{g, s, lang.Expr{}},
		{g, s, lang.Expr{Op: "?"}},
		{g, s, lang.Expr{Op: "var"}},
		{g, s, lang.Expr{Op: "var", Name: "w"}},
		{g, s, lang.Expr{Op: "var", Name: "a"}},
		{g, s, lang.Expr{Op: "var", Name: "x", N: 1}},
		{g, s, lang.Expr{Op: "at", Name: "x", L: []lang.Expr{x}}},
		{g, s, lang.Expr{Op: "at", Name: "c", L: []lang.Expr{x}}},
		{g, s, lang.Expr{Op: "at", Name: "a", L: []lang.Expr{{Op: "var", Name: "w"}}}},
		{g, s, lang.Expr{Op: "at", Name: "a"}},
		{g, s, lang.Expr{Op: "+", L: []lang.Expr{x}}},
		{g, s, lang.Expr{Op: "+", L: []lang.Expr{x, {Op: "var", Name: "w"}}}},
		{g, s, lang.Expr{Op: "+", L: []lang.Expr{x, x, x}}},
		{g, s, num(-1)},
		{g, s, num(most + 1)},
		{g, s, deep},
		{g, s, shared},
		{g, State{}, x},
		{g, short, x},
		{g, shape, x},
		{g, far, x},
		{g, State{None: true, Vars: s.Vars, Arrays: s.Arrays}, x},
		{g, State{None: true}, lang.Expr{Op: "var", Name: "w"}},
		{flow.Graph{Vars: g.Vars, Arrays: g.Arrays}, s, x},
		{flow.Graph{Vars: g.Vars, Arrays: g.Arrays, Points: 1, Heads: []int{1}}, s, x},
	} {
		if a, ok, err := Eval(c.g, c.s, c.e); err != api.ErrShape || ok || a != (api.Interval{}) {
			t.Error(i, a, ok, err)
		}
		for _, a := range []flow.Act{{Kind: "set", Name: "x", Args: []lang.Expr{c.e}}, {Kind: "put", Name: "a", Args: []lang.Expr{c.e, x}}, {Kind: "put", Name: "a", Args: []lang.Expr{x, c.e}}, {Kind: "test", Tests: []lang.Test{{A: c.e, Rel: "<", B: x}}}, {Kind: "fail", Tests: []lang.Test{{A: x, Rel: "<", B: c.e}}}} {
			if to, err := Go(c.g, c.s, a); err != api.ErrShape || to.None || len(to.Vars)+len(to.Arrays) > 0 {
				t.Error(i, to, err)
			}
		}
	}
	for _, a := range []flow.Act{{}, {Kind: "jump"}, {Kind: "skip", Name: "x"}, {Kind: "set", Name: "a", Args: []lang.Expr{x}}, {Kind: "set", Name: "x"}, {Kind: "put", Name: "x", Args: []lang.Expr{x, x}}, {Kind: "read", Name: "a"}, {Kind: "read"}, {Kind: "test", Tests: []lang.Test{{A: x, Rel: "=", B: x}}}, {Kind: "test", Name: "x"}} {
		for _, s := range []State{s, {None: true}} {
			if to, err := Go(g, s, a); err != api.ErrShape || to.None || len(to.Vars)+len(to.Arrays) > 0 {
				t.Error(a, to, err)
			}
		}
	}
}

// P141: a term of a graph that has no variables; the greatest number; a long one.
func TestEvalEdges(t *testing.T) {
	none := flow.Graph{Points: 1}
	if a, ok, err := Eval(none, State{}, lang.Expr{Op: "num", N: most}); !ok || err != nil || a != (api.Interval{Low: most, High: most}) {
		t.Error(a, ok, err)
	}
	if _, _, err := Eval(none, State{}, lang.Expr{Op: "var", Name: "x"}); err != api.ErrShape {
		t.Error(err)
	}
	long := termOf(t, strings.Repeat("1+", 900)+"x")
	if a, ok, err := Eval(names(), state("0 0 0 0 0"), long); !ok || err != nil || a != (api.Interval{Low: 900, High: 900}) {
		t.Error(a, ok, err)
	}
	for range 200 {
		long = lang.Expr{Op: "+", L: []lang.Expr{long, {Op: "num", N: 1}}}
	}
	if a, ok, err := Eval(names(), state("0 0 0 0 0"), long); ok || err != api.ErrShape {
		t.Error(a, ok, err)
	}
}

// P144: graphs and stops that are none, and which is told first.
func TestScanErrors(t *testing.T) {
	g := names()
	bad := flow.Graph{Points: 1, Edges: []flow.Edge{{Act: flow.Act{Kind: "read", Name: "x"}}}}
	for i, c := range []struct {
		g     flow.Graph
		stops []int
		want  error
	}{
		{g, nil, nil},
		{g, make([]int, 20), nil},
		{g, []int{api.MaxBound, -api.MaxBound}, nil},
		{g, make([]int, 21), api.ErrBound},
		{g, []int{0, api.MaxBound + 1}, api.ErrBound},
		{g, []int{-api.MaxBound - 1}, api.ErrBound},
		{g, []int{math.MinInt}, api.ErrBound},
		{flow.Graph{}, nil, api.ErrShape},
		{flow.Graph{}, make([]int, 21), api.ErrShape},
		{flow.Graph{Points: 121}, nil, api.ErrShape},
		{flow.Graph{Points: 1, Heads: []int{-1}}, nil, api.ErrShape},
		{bad, nil, api.ErrShape},
		{bad, []int{math.MaxInt}, api.ErrShape},
		{flow.Graph{Points: 1, Vars: []string{"x", "x"}}, nil, api.ErrShape},
	} {
		tab, err := Scan(c.g, c.stops)
		if err != c.want || (err != nil) != (len(tab) == 0) {
			t.Error(i, tab, err)
		}
	}
}

// lists of states.
func lists(l ...State) [][]api.Interval {
	var out [][]api.Interval
	for _, s := range l {
		out = append(out, s.Vars, s.Arrays)
	}
	return out
}

// spoil all lists, each place with a number of its own: none may be written twice.
func spoil(t *testing.T, l [][]api.Interval) {
	t.Helper()
	n := 0
	for _, one := range l {
		for i := range one[:cap(one)] {
			n++
			one[:cap(one)][i] = api.Interval{Low: n, High: -1}
		}
	}
	n = 0
	for _, one := range l {
		for _, a := range one[:cap(one)] {
			n++
			if a.Low != n {
				t.Fatal(l)
			}
		}
	}
}

// P4: answers are new memory, no two lists of one share any, and what is handed over is only read, and nothing behind its length.
func TestMemory(t *testing.T) {
	g := built(t, "var x;var y;var z;array a[3];array b[1];main{read x;while x<5{x=x+1;a[0]=x;if x<y{}else{assert true;}}assume true;}")
	stops := []int{3, 1, 2, math.MaxInt}
	first, err := Scan(g, stops[:3])
	if err != nil {
		t.Fatal(err)
	}
	var want []string
	for _, s := range first {
		want = append(want, saidState(s))
	}
	spoil(t, lists(first...))
	again, err := Scan(g, stops[:3])
	for i, s := range again {
		if saidState(s) != want[i] || err != nil {
			t.Error(i, s, err)
		}
	}
	if !slices.Equal(stops, []int{3, 1, 2, math.MaxInt}) {
		t.Error(stops)
	}
	const some = "1..3 -2..5 .. 7 -1..4"
	for _, act := range []string{"while true{}", "x=y;", "read x;", "a[0]=1;", "b[0]=1;", "assume x<y;", "assume x<y and b[0]>1;", "assert x<2;"} {
		s := state(some + " 9..10")
		bad := api.Interval{Low: 1}
		s.Vars, s.Arrays = append(s.Vars[:3:3], bad)[:3], append(s.Arrays[:2:2], bad)[:2]
		to, err := Go(names(), s, actOf(t, act))
		if err != nil || to.None {
			t.Fatal(act, to, err)
		}
		spoil(t, lists(to))
		if saidState(s) != some || s.Vars[:4][3] != bad || s.Arrays[:3][2] != bad {
			t.Error(act, s)
		}
		if a, ok, err := Eval(names(), s, termOf(t, "x+a[x]")); !ok || err != nil || saidState(s) != some {
			t.Error(a, ok, err, s)
		}
	}
	table := append(again, State{Vars: []api.Interval{{Low: 1}}})[:len(again)]
	if edge, ok, err := Holds(g, table); edge != -1 || !ok || err != nil {
		t.Error(edge, ok, err)
	}
	for i, s := range table {
		if saidState(s) != want[i] {
			t.Error(i, s)
		}
	}
}

// P1: many points, edges, stops and tests end soon.
func TestScanEndsSoon(t *testing.T) {
	g := flow.Graph{Vars: strings.Split("abcdefghijkl", ""), Points: 120}
	var stops []int
	for i := range 20 {
		stops = append(stops, (i-10)*1000)
	}
	for i := range 400 {
		x, y := g.Vars[i%12], g.Vars[(i/7)%12]
		sum := lang.Expr{Op: []string{"+", "-"}[i%2], L: []lang.Expr{{Op: "var", Name: y}, {Op: "num", N: i % 3}}}
		act := flow.Act{Kind: "set", Name: x, Args: []lang.Expr{sum}}
		if i%3 == 1 {
			test := lang.Test{A: sum, Rel: "<", B: lang.Expr{Op: "num", N: 9000 - 13*i}}
			act = flow.Act{Kind: "test", Tests: slices.Repeat([]lang.Test{test}, 150)}
		}
		from, to := i, i+1
		if i >= 119 {
			from, to = i*i%120, i*7%120
		}
		g.Edges = append(g.Edges, flow.Edge{From: from, To: to, Act: act})
	}
	started := time.Now()
	tab, err := Scan(g, stops)
	if edge, ok, wrong := Holds(g, tab); edge != -1 || !ok || wrong != nil || err != nil {
		t.Error(edge, ok, wrong, err)
	}
	if d := time.Since(started); d > 20*time.Second {
		t.Error(d)
	}
}

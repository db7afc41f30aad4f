package relate

import (
	"math"
	"slices"
	"strings"
	"testing"
	"time"

	"raycone/api"
	"raycone/flow"
	"raycone/lang"
	"raycone/octagon"
)

// P152: what is told of a few programs at their last point: it may be more that holds, but not without need.
func TestScan(t *testing.T) {
	for _, c := range []struct{ of, main, want string }{
		{"xy", "", "x=0 y=0"},
		{"x", "", "x=0"},
		{"", "", ""},
		{"xy", "x=5;y=x+1;", "x=5 y=6"},
		{"xy", "read x;y=x;", "x-y=0"},
		{"xy", "read x;if x<0{y=-x;}else{y=x;}", "-y<=0 x-y<=0 -x-y<=0"},
		{"xy", "read x;read y;assume x<y and y<9;", "x-y<=-1 y<=8"},
		{"xy", "assume false;", "none"},
		{"xy", "assume x>y;", "none"},
		{"xy", "while true{}", "none"},
		{"xy", "while x<10{x=x+1;y=y+1;}", "x=10 y=10"},
		{"xz", "while x<10{x=x+1;y=y+1;}", "x=10 z=0"},
		{"x", "while x<10{x=x+1;y=y+1;}", "x=10"},
		{"y", "while x<10{x=x+1;y=y+1;}", "-y<=0"},
		{"", "while x<10{x=x+1;y=y+1;}", ""},
		{"xy", "while x!=10{x=x+1;y=y-1;}", "x=10 y=-10"},
		{"xyz", "read z;assume z>=0;while x<z{x=x+1;}y=x-z;", "x-z=0 -x<=0"},
		{"xyz", "while x<10{y=0;while y<x{y=y+1;}x=x+1;}", "x=10 y=9 z=0"},
		{"xy", "read x;y=x%7;", "y<=6 -y<=6"},
		{"xw", "read x;a[x]=1;", "x<=2 -x<=0 w=0"},
	} {
		g := built(t, c.main)
		tab, err := Scan(g, chosen(c.of))
		if err != nil || len(tab) != g.Points {
			t.Fatal(c, err)
		}
		if got := tab[g.Points-1]; !same(got, state(c.of, c.want)) {
			t.Errorf("%s: %s: %s, want %s", c.of, c.main, said(c.of, got), c.want)
		}
		if edge, ok, err := Holds(g, chosen(c.of), tab); edge != -1 || !ok || err != nil {
			t.Error(c, edge, ok, err)
		}
	}
}

// P150: what is told is tight, also where it comes of widening.
func TestScanIsTight(t *testing.T) {
	g, c := built(t, "read z;if z<0{x=3;y=1;}else{x=2;y=2;}while true{x=3;y=2;}"), chosen("xy")
	tab, err := Scan(g, c)
	if got := tab[g.Heads[0]]; !isTold(c, got) || !same(got, state("xy", "x<=3 -x<=-2 y<=2 -y<=-1 -x-y<=-4 y-x<=0")) || err != nil {
		t.Error(said("xy", got), err)
	}
}

// P153: an assert of which nothing leads along its edges fail, and one of which something does.
func TestScanAsserts(t *testing.T) {
	for main, safe := range map[string]bool{
		"while x<10{x=x+1;y=y+1;}assert x==y;":                      true,
		"while x<10{x=x+1;y=y+1;}assert x==10;":                     true,
		"while x<10{x=x+1;y=y+1;}assert x==11;":                     false,
		"while x<10{x=x+1;y=y+2;}assert x==y;":                      false,
		"read x;y=x+1;assert x<y;":                                  true,
		"read x;y=x+1;assert x<y-1;":                                false,
		"read x;read y;if x<y{z=y;}else{z=x;}assert z>=x and z>=y;": true,
		"read x;read y;if x<y{z=y;}else{z=x;}assert z>=x+1;":        false,
		"read x;y=-x;assert x+y==0;":                                true,
		"read x;while x>0{x=x-1;y=y+1;}assert y>=0;":                true,
		"read x;y=x;while x>0{x=x-1;y=y-1;}assert x==y;":            true,
		"read x;y=x;while x>0{x=x-1;y=y-1;}assert x==0;":            false,
	} {
		g, c := built(t, main), chosen("xyzw")
		tab, err := Scan(g, c)
		if err != nil {
			t.Fatal(err)
		}
		is := true
		for i, e := range g.Edges {
			is = is && (e.Act.Kind != "fail" || leadsNowhere(t, g, c, tab, i))
		}
		if is != safe {
			t.Error(main, is)
		}
	}
}

// P152: edges, and point 0, of which a table lacks something.
func TestHolds(t *testing.T) {
	g, c := built(t, "x=1;while x<5{x=x+1;y=x;}assert x==y;"), chosen("xy")
	var good Table
	for _, s := range []string{"x=0 y=0", "x=1 y=0", "x<=5 -x<=-1 y-x<=0 -y<=0 -x-y<=-1", "x<=4 -x<=-1 y-x<=0 -y<=0", "x<=5 -x<=-2 y-x<=-1 -y<=0", "x-y=0 x<=5 -x<=-2", "x=5 y<=5 -y<=0", "x=5 y<=4 -y<=0", "x=5 y=5"} {
		good = append(good, state("xy", s))
	}
	for _, k := range []struct {
		point int
		to    State
		edge  int
		is    bool
	}{
		{0, state("xy", "x=0 y=0"), -1, true},
		{0, state("xy", "x<=0 -x<=0 x-y=0"), -1, true},
		{0, loose("xy", "x-y=0 x+y=0"), -1, true},
		{0, state("xy", "x=0"), 0, false},
		{0, state("xy", "x-y<=-1"), -1, false},
		{0, state("xy", "x=1 y=0"), -1, false},
		{0, state("xy", "none"), -1, false},
		{0, State{None: true, Oct: good[0].Oct}, -1, false},
		{0, loose("xy", "x<=0 -x<=-1"), -1, false},
		{1, state("xy", "x=1 y<=1 -y<=0"), -1, true},
		{1, state("xy", "x=1 y<=2 -y<=0"), 1, false},
		{1, state("xy", "x=2 y=0"), 0, false},
		{1, state("xy", "none"), 0, false},
		{1, loose("xy", "x=1 x<=0"), 0, false},
		{2, state("xy", "x<=4 -x<=-1 y-x<=0 -y<=0"), 5, false},
		{2, state("xy", "x<=6 -x<=-1 y-x<=0 -y<=0"), 6, false},
		{2, state("xy", ""), 2, false},
		{2, loose("xy", "x<=5 -x<=-1 y-x<=0 -y<=0 x+y<=10"), -1, true},
		{3, good[2], 3, false},
		{5, state("xy", "x-y=0 x<=6 -x<=-2"), 5, false},
		{6, state("xy", "x=5 y<=5 -y<=1"), 7, false},
		{6, state("xy", "x=5 y<=3 -y<=0"), 6, false},
		{7, state("xy", "none"), 7, false},
		{7, state("xy", ""), -1, true},
		{8, state("xy", "none"), 8, false},
	} {
		tab := slices.Clone(good)
		tab[k.point] = k.to
		if edge, is, err := Holds(g, c, tab); edge != k.edge || is != k.is || err != nil {
			t.Error(k.point, said("xy", k.to), edge, is, err, "want", k.edge, k.is)
		}
	}
}

// P150, P151, P152: graphs, choices, states and acts that are none, and which error comes first.
func TestErrors(t *testing.T) {
	g, c := names(), Choice{0, 1}
	skip := flow.Act{Kind: "skip"}
	good, none := state("xy", "x=0 y=0"), State{None: true}
	cell := func(s State, k int, c octagon.Cell) State {
		s.Oct.L = slices.Clone(s.Oct.L)
		s.Oct.L[k] = c
		return s
	}
	shape := cell(good, 1, octagon.Cell{Most: 1})
	far := cell(good, 1, octagon.Cell{Has: true, Most: api.MaxBound + 1})
	order := cell(good, 0, octagon.Cell{Has: true, Most: 7})
	five := flow.Graph{Vars: []string{"a", "b", "c", "d", "e"}, Points: 1}
	for i, k := range []struct {
		g    flow.Graph
		c    Choice
		s    State
		a    flow.Act
		want error
	}{
		{g, c, good, skip, nil},
		{g, c, none, skip, nil},
		{g, nil, State{}, skip, nil},
		{g, Choice{3}, state("x", ""), skip, nil},
		{g, Choice{0, 1, 2, 3}, state("xyzw", ""), skip, nil},
		{five, Choice{0, 2, 3, 4}, state("xyzw", ""), skip, nil},
		{flow.Graph{Points: 1}, nil, State{}, skip, nil},
		// A choice that is none.
		{g, Choice{1, 0}, good, skip, api.ErrShape},
		{g, Choice{1, 1}, good, skip, api.ErrShape},
		{g, Choice{-1, 1}, good, skip, api.ErrShape},
		{g, Choice{0, 4}, good, skip, api.ErrShape},
		{g, Choice{math.MinInt, math.MaxInt}, good, skip, api.ErrShape},
		{g, Choice{math.MaxInt}, none, skip, api.ErrShape},
		{five, Choice{0, 1, 2, 3, 4}, none, skip, api.ErrShape},
		{flow.Graph{Points: 1}, Choice{0}, none, skip, api.ErrShape},
		// A state that is none.
		{g, c, State{}, skip, api.ErrShape},
		{g, c, state("x", "x=0"), skip, api.ErrShape},
		{g, c, state("xyz", ""), skip, api.ErrShape},
		{g, nil, good, skip, api.ErrShape},
		{g, c, State{None: true, Oct: flat(1)}, skip, api.ErrShape},
		{g, c, shape, skip, api.ErrShape},
		{g, c, far, skip, api.ErrBound},
		{g, c, order, skip, api.ErrOrder},
		{g, c, State{Oct: octagon.Octagon{N: 2}}, skip, api.ErrShape},
		{g, c, State{Oct: octagon.Octagon{N: -1}}, skip, api.ErrBound},
		{g, c, State{Oct: octagon.Octagon{N: math.MaxInt}}, skip, api.ErrBound},
		{g, c, State{None: true, Oct: octagon.Octagon{N: 5}}, skip, api.ErrBound},
		// An octagon that is wrong in itself is told ahead of all but the graph.
		{g, Choice{1, 0}, far, skip, api.ErrBound},
		{g, Choice{2}, order, skip, api.ErrOrder},
		{g, c, far, flow.Act{Kind: "read", Name: "v"}, api.ErrBound},
		{g, c, order, flow.Act{Kind: "jump"}, api.ErrOrder},
		{flow.Graph{}, nil, far, skip, api.ErrShape},
		{flow.Graph{Vars: g.Vars, Points: 121}, c, order, skip, api.ErrShape},
		{flow.Graph{Vars: []string{"x", "x"}, Points: 1}, c, far, skip, api.ErrShape},
		{flow.Graph{Vars: g.Vars, Points: 1, Heads: []int{1}}, c, good, skip, api.ErrShape},
		{flow.Graph{Vars: g.Vars, Points: 1, Edges: []flow.Edge{{Act: flow.Act{Kind: "read", Name: "v"}}}}, c, good, skip, api.ErrShape},
	} {
		s, err := Go(k.g, k.c, k.s, k.a)
		if err != k.want || err != nil && !isZero(s) {
			t.Error(i, s, err)
		}
		if k.a.Kind != "skip" {
			continue
		}
		edge, is, err := Holds(k.g, k.c, Table{k.s})
		if err != k.want || err != nil && (edge != 0 || is) {
			t.Error(i, edge, is, err)
		}
	}
}

// P151: names, terms and acts that are none, also where nothing comes of it.
func TestActErrors(t *testing.T) {
	x, v := lang.Expr{Op: "var", Name: "x"}, lang.Expr{Op: "var", Name: "v"}
	terms := func(l ...lang.Expr) []lang.Expr { return l }
	deep := x
	for range 12 {
		deep = lang.Expr{Op: "neg", L: terms(deep)}
	}
	shared := x
	for range 100 {
		shared = lang.Expr{Op: "+", L: terms(shared, shared)}
	}
	acts := []flow.Act{{}, {Kind: "jump"}, {Kind: "skip", Name: "x"}, {Kind: "read"}, {Kind: "read", Name: "v"}, {Kind: "read", Name: "a"}, {Kind: "set", Name: "x"}, {Kind: "set", Name: "v", Args: terms(x)}, {Kind: "set", Name: "a", Args: terms(x)}, {Kind: "put", Name: "x", Args: terms(x, x)}, {Kind: "put", Name: "a", Args: terms(x)}, {Kind: "test", Name: "x"}, {Kind: "test", Tests: []lang.Test{{A: x, Rel: "=", B: x}}}, {Kind: "fail", Args: terms(x)}}
	for _, e := range []lang.Expr{{}, v, deep, shared, {Op: "?"}, {Op: "var", Name: "a"}, {Op: "num", N: -1}, {Op: "num", N: most + 1}, {Op: "at", Name: "x", L: terms(x)}, {Op: "at", Name: "a", L: terms(v)}, {Op: "at", Name: "a"}, {Op: "+", L: terms(x)}, {Op: "+", L: terms(x, v)}, {Op: "neg"}, {Op: "*", L: terms(x, x, x)}} {
		acts = append(acts, flow.Act{Kind: "set", Name: "x", Args: terms(e)}, flow.Act{Kind: "set", Name: "z", Args: terms(e)}, flow.Act{Kind: "put", Name: "a", Args: terms(x, e)}, flow.Act{Kind: "put", Name: "a", Args: terms(e, x)}, flow.Act{Kind: "test", Tests: []lang.Test{{A: x, Rel: "<", B: e}}}, flow.Act{Kind: "fail", Tests: []lang.Test{{A: e, Rel: "==", B: x}}})
	}
	for _, a := range acts {
		for _, s := range []State{state("xy", "x=0"), {None: true}, loose("xy", "x<=0 -x<=-1")} {
			if to, err := Go(names(), chosen("xy"), s, a); err != api.ErrShape || !isZero(to) {
				t.Error(a.Kind, a.Name, to, err)
			}
		}
	}
}

// P152: as many states as points; Scan's errors.
func TestTableErrors(t *testing.T) {
	g := built(t, "x=1;")
	good, far := state("xy", ""), state("xy", "")
	far.Oct.L[0] = octagon.Cell{Has: true, Most: math.MaxInt}
	for i, k := range []struct {
		c    Choice
		t    Table
		want error
	}{
		{Choice{0, 1}, Table{good, good}, nil},
		{Choice{0, 1}, nil, api.ErrShape},
		{Choice{0, 1}, Table{good}, api.ErrShape},
		{Choice{0, 1}, Table{good, good, good}, api.ErrShape},
		{Choice{0, 1}, Table{good, {}}, api.ErrShape},
		{Choice{0, 1}, Table{good, far}, api.ErrBound},
		{Choice{0, 1}, Table{{}, far}, api.ErrBound},
		{Choice{1, 0}, Table{good, far}, api.ErrBound},
		{Choice{0, 1}, Table{good, good, far}, api.ErrBound},
		{Choice{1, 0}, Table{good, good}, api.ErrShape},
		{Choice{0}, Table{good, good}, api.ErrShape},
	} {
		edge, is, err := Holds(g, k.c, k.t)
		if err != k.want || err != nil && (edge != 0 || is) {
			t.Error(i, edge, is, err)
		}
	}
	for i, k := range []struct {
		g    flow.Graph
		c    Choice
		want error
	}{
		{g, nil, nil},
		{g, Choice{0, 1, 2, 3}, nil},
		{g, Choice{1, 0}, api.ErrShape},
		{g, Choice{2, 2}, api.ErrShape},
		{g, Choice{4}, api.ErrShape},
		{g, Choice{-1}, api.ErrShape},
		{flow.Graph{Points: 1, Vars: []string{"a", "b", "c", "d", "e"}}, Choice{0, 1, 2, 3, 4}, api.ErrShape},
		{flow.Graph{}, nil, api.ErrShape},
		{flow.Graph{Points: 121}, nil, api.ErrShape},
		{flow.Graph{Points: 1, Heads: []int{1}}, nil, api.ErrShape},
		{flow.Graph{Points: 1, Edges: []flow.Edge{{To: 1, Act: flow.Act{Kind: "skip"}}}}, nil, api.ErrShape},
		{flow.Graph{Points: 1, Edges: []flow.Edge{{Act: flow.Act{Kind: "read", Name: "x"}}}}, nil, api.ErrShape},
	} {
		tab, err := Scan(k.g, k.c)
		if err != k.want || (err != nil) != (len(tab) == 0) {
			t.Error(i, tab, err)
		}
	}
}

// spoil all lists, each place with a number of its own: none may be written twice.
func spoil(t *testing.T, l ...State) {
	t.Helper()
	n := 0
	for _, s := range l {
		for i := range s.Oct.L[:cap(s.Oct.L)] {
			n++
			s.Oct.L[:cap(s.Oct.L)][i].Most = n
		}
	}
	n = 0
	for _, s := range l {
		for _, c := range s.Oct.L[:cap(s.Oct.L)] {
			if n++; c.Most != n {
				t.Fatal(l)
			}
		}
	}
}

// P4: answers are new memory, no two lists of one share any, and what is handed over is only read, and nothing behind its length.
func TestMemory(t *testing.T) {
	g := built(t, "read x;while x<5{x=x+1;y=x;if x<y{}else{assert true;}}assume true;")
	long := Choice{0, 1, 7}
	first, err := Scan(g, long[:2])
	if err != nil {
		t.Fatal(err)
	}
	var want []string
	for _, s := range first {
		want = append(want, said("xy", s))
	}
	spoil(t, first...)
	again, err := Scan(g, long[:2])
	for i, s := range again {
		if said("xy", s) != want[i] || err != nil {
			t.Error(i, s, err)
		}
	}
	if !slices.Equal(long, Choice{0, 1, 7}) {
		t.Error(long)
	}
	const some = "x<=3 -x<=0 y-x<=2"
	for _, act := range []string{"while true{}", "x=y;", "x=x*y;", "z=1;", "read x;", "read z;", "a[0]=1;", "assume true;", "assume x<z;", "assume x<y;", "assume x!=0;", "assume x*x>2;", "assert x<2;"} {
		s := loose("xy", some)
		bad := octagon.Cell{Most: 99}
		s.Oct.L = append(s.Oct.L, bad)[:16]
		to, err := Go(names(), long[:2], s, actOf(t, act))
		if err != nil || to.None {
			t.Fatal(act, to, err)
		}
		kept := said("xy", to)
		other, err := Go(names(), long[:2], s, actOf(t, act))
		spoil(t, to, other)
		if err != nil || !same(s, loose("xy", some)) || s.Oct.L[:17][16] != bad {
			t.Error(act, s, err)
		}
		to, _ = Go(names(), long[:2], s, actOf(t, act))
		spoil(t, s)
		if said("xy", to) != kept {
			t.Error(act, said("xy", to), kept)
		}
	}
	table := append(again, State{Oct: octagon.Octagon{N: 9}})[:len(again)]
	if edge, ok, err := Holds(g, long[:2], table); edge != -1 || !ok || err != nil {
		t.Error(edge, ok, err)
	}
	for i, s := range table {
		if said("xy", s) != want[i] {
			t.Error(i, s)
		}
	}
}

// P1: many points, edges and tests end soon, whatever is done along them.
func TestScanEndsSoon(t *testing.T) {
	for _, op := range []string{"+", "-", "*"} {
		g := flow.Graph{Vars: strings.Split("abcdefghijkl", ""), Points: 120}
		for i := range 400 {
			x, y := g.Vars[i%4], g.Vars[(i/7)%5]
			sum := lang.Expr{Op: op, L: []lang.Expr{{Op: "var", Name: y}, {Op: "num", N: i % 3}}}
			act := flow.Act{Kind: "set", Name: x, Args: []lang.Expr{sum}}
			if i%3 == 1 {
				test := lang.Test{A: sum, Rel: []string{"<", "!="}[i%2], B: lang.Expr{Op: "var", Name: x}}
				act = flow.Act{Kind: "test", Tests: slices.Repeat([]lang.Test{test}, 150)}
			}
			from, to := i, i+1
			switch {
			case i >= 238:
				from, to = i*i%120, i*7%120
			case i >= 119:
				from, to = i-118, i-119
			}
			g.Edges = append(g.Edges, flow.Edge{From: from, To: to, Act: act})
		}
		started := time.Now()
		tab, err := Scan(g, Choice{0, 1, 2, 3})
		if edge, ok, wrong := Holds(g, Choice{0, 1, 2, 3}, tab); edge != -1 || !ok || wrong != nil || err != nil {
			t.Error(edge, ok, wrong, err)
		}
		if d := time.Since(started); d > 20*time.Second {
			t.Error(op, d)
		}
	}
}

package seek

import (
	"fmt"
	"math/rand"
	"slices"
	"strings"
	"testing"

	"raycone/api"
	"raycone/flow"
	"raycone/hull"
	"raycone/lang"
	"raycone/poly"
	"raycone/relate"
	"raycone/scan"
)

// sorted out asserts of a program that is right.
func sorted(t *testing.T, p lang.Program, workers int) []Verdict {
	t.Helper()
	l, err := Triage(p, workers)
	if err != nil {
		t.Fatalf("%v: %v", p, err)
	}
	return l
}

// P211: kinds of edges, in order.
func TestTriage(t *testing.T) {
	many := strings.Repeat
	for main, want := range map[string]string{
		"":                             "[]",
		"x=1;":                         "[]",
		"assert true;":                 "[]",
		"assert false;":                "[{0 fails}]",
		"assert x==0;":                 "[{0 safe}]",
		"assert x==1;":                 "[{0 fails}]",
		"assert x==0;assert y==1;":     "[{0 safe} {2 fails}]",
		"assert y==1;assert x==1;":     "[{0 fails} {2 safe}]",
		"x=3;assert x==3;assert x==4;": "[{1 safe} {3 fails}]",
		// Of one assert each edge that can be taken is gone along; not those of an assert behind it.
		"assert x==1 and y==0 and z==2;":               "[{0 fails} {1 safe} {2 fails}]",
		"assert x==1 or y==1;":                         "[{0 fails}]",
		"read x;assert x<1 and x>-2;":                  "[{1 fails} {2 fails}]",
		"read x;assert x<1;assert x<1;assert x>0;":     "[{1 fails} {3 safe} {5 fails}]",
		"read x;assert x!=1 and x!=3;assert x!=1;":     "[{1 fails} {2 open} {4 open}]",
		"read x;assert x<2;assert x>-3;assert x>-2;":   "[{1 fails} {3 open} {5 fails}]",
		"read x;assert x!=2;":                          "[{1 fails}]",
		"read x;assert x!=-2;":                         "[{1 fails}]",
		"read x;assert x!=3;":                          "[{1 open}]",
		"read x;assert x!=-3;":                         "[{1 open}]",
		"read x;read y;read z;assert x+y+z!=-6;":       "[{3 fails}]",
		"read x;read y;read z;assert x+y+z!=7;":        "[{3 open}]",
		"read x;read y;read z;read x;assert false;":    "[{4 open}]",
		"read x;assume x>0;assert x!=0;assert x!=2;":   "[{2 safe} {4 fails}]",
		"read x;if x>0{assert x>0;}else{assert x>0;}":  "[{2 safe} {5 fails}]",
		"assume false;assert false;":                   "[{0 safe}]",
		"assume false;read x;assert x==5;":             "[{1 safe}]",
		"read x;y=1/(x-5);assert x==5;":                "[{2 fails}]",
		"read x;y=1/(x+1);assert x!=-1;":               "[{2 open}]",
		"read x;assert x*x>=0;":                        "[{1 open}]",
		"x=1099511627776;y=x+1;assert false;":          "[{2 safe}]",
		"while true{}assert false;":                    "[{3 safe}]",
		"while x<10{x=x+1;}assert x==10;":              "[{5 safe}]",
		"while x<10{x=x+1;}assert x==9;":               "[{5 fails}]",
		"while x<10{x=x+1;y=y+1;}assert x==y;":         "[{6 safe}]",
		"while x<10{x=x+1;y=y+2;}assert y<=2*x;":       "[{6 safe}]",
		"while y<10{x=1;y=y+1;assert x==1;}":           "[{4 safe}]",
		"while true{if x<100{x=x+1;}assert x<=100;}":   "[{7 safe}]",
		"while true{if u<100{u=u+1;}assert u<=100;}":   "[{7 safe}]",
		"while x<10{x=x+1;a[0]=a[0]+1;}assert a[1]<2;": "[{6 open}]",
		// By stops alone, and by the third variable.
		"read y;while true{if u<100{u=u+1;}if y<1{assert u<=100;}}": "[{9 safe}]",
		"read y;while true{if u<100{u=u+2;}if y<1{assert u<=100;}}": "[{9 open}]",
		"while x<10{x=x+1;z=z+2;}assert z<=2*x;":                    "[{6 safe}]",
		"while x<10{x=x+1;w=w+2;}assert w<=2*x;":                    "[{6 open}]",
		// Just so many edges, and one more.
		"while x<65{x=x+1;}assert x!=65;":                   "[{5 fails}]",
		"y=1;y=2;while x<65{x=x+1;}assert x!=65;":           "[{7 fails}]",
		"y=1;y=2;y=3;while x<65{x=x+1;}assert x!=65;":       "[{8 open}]",
		"while x<66{x=x+1;}assert x!=66;":                   "[{5 open}]",
		"while true{x=x+1;assert x!=50;}":                   "[{3 fails}]",
		"while true{x=x+1;assert x!=51;}":                   "[{3 open}]",
		"while true{assert x!=49;x=x+1;}":                   "[{2 fails}]",
		"while true{assert x!=50;x=x+1;}":                   "[{2 open}]",
		many("x=x+1;", 60) + "assert x!=60;assert x!=61;":   "[{60 fails} {62 safe}]",
		"x=call f(5);assert x==10;assert x!=10;":            "[{2 safe} {4 fails}]",
		"read x;x=call f(x);assert x!=4;assert x!=6;":       "[{3 fails} {5 open}]",
		"read x;assume x==1/y or x>=2;assert false;":        "[{3 fails}]",
		"read x;assert x<1/y or x<2;":                       "[{1 safe}]",
		"a[1]=5;x=a[1];assert x==5;assert a[0]==0;":         "[{2 open} {4 open}]",
		"a[1]=5;x=a[1];assert x<6;assert x>0;assert x!=5;":  "[{2 safe} {4 open} {6 fails}]",
		"while y<5{read x;assert x!=2;y=y+1;}assert false;": "[{3 fails} {8 open}]",
	} {
		p := read(t, "var x;var y;var z;var w;var v;var u;array a[3];proc f(k){return k+k;}main{"+main+"}")
		if got := fmt.Sprint(sorted(t, p, 3)); got != want {
			t.Errorf("%s: %s, want %s", main, got, want)
		}
	}
}

// P211: what is wrong, and what is told first.
func TestTriageErrors(t *testing.T) {
	p := read(t, "var x;main{read x;assert x!=0;}")
	rows := strings.Repeat("x<1 and x<2 or ", 9) + "x<1"
	for _, c := range []struct {
		p       lang.Program
		workers int
		want    error
	}{
		{p, 1, nil},
		{p, api.Workers, nil},
		{p, 0, api.ErrShape},
		{p, -1, api.ErrShape},
		{p, api.Workers + 1, api.ErrShape},
		{p, -1 << 63, api.ErrShape},
		{p, 1<<63 - 1, api.ErrShape},
		{lang.Program{}, 0, api.ErrShape},
		{lang.Program{}, 1, nil},
		{lang.Program{Main: []lang.Stmt{{Kind: "set"}}}, 1, api.ErrShape},
		{lang.Program{Vars: []string{"x", "x"}}, 0, api.ErrName},
		{read(t, "main{x=1;}"), 17, api.ErrName},
		{read(t, "array a[16];array b[17];main{}"), 0, api.ErrBound},
		{read(t, "var x;main{assert "+rows+";}"), 0, api.ErrBound},
		{read(t, "var x;main{"+strings.Repeat("x=1;", 119)+"}"), 1, nil},
		{read(t, "var x;main{"+strings.Repeat("x=1;", 120)+"}"), 1, api.ErrBound},
	} {
		l, err := Triage(c.p, c.workers)
		if err != c.want || err != nil && len(l) > 0 {
			t.Errorf("%v: %v %v", c, l, err)
		}
	}
}

// walks of a graph, by what Steps tells of each point alone.
type walks struct {
	flow.Graph
	from [][]int // edges of each point
	went map[int]int
}

// gone along by some input: how often, each edge `fail`.
func gone(t *testing.T, g flow.Graph) map[int]int {
	w := walks{g, make([][]int, g.Points), map[int]int{}}
	for i, e := range g.Edges {
		w.from[e.From] = append(w.from[e.From], i)
	}
	settled := map[string]int{}
	for _, input := range inputsOf(2) {
		known := false
		for n := range len(input) + 1 {
			known = known || settled[fmt.Sprint(input[:n])] > 0
		}
		if known {
			continue
		}
		if left, asked := w.walk(t, input); !asked {
			settled[fmt.Sprint(input[:len(input)-left])]++
		}
	}
	return w.went
}

// steps from a point, with the numbers of all edges.
func (w walks) steps(t *testing.T, at int, vars []int, arrays [][]int, input int) []flow.Next {
	t.Helper()
	alone := w.Graph
	alone.Edges = nil
	for _, i := range w.from[at] {
		alone.Edges = append(alone.Edges, w.Edges[i])
	}
	l, err := flow.Steps(alone, at, vars, arrays, input)
	if err != nil {
		t.Fatal(err)
	}
	for i := range l {
		l[i].Edge = w.from[at][l[i].Edge]
	}
	return l
}

// walk with an input: how many numbers are left, and whether one was missing.
func (w walks) walk(t *testing.T, input []int) (left int, asked bool) {
	t.Helper()
	at, vars, arrays := 0, make([]int, len(w.Vars)), [][]int{}
	for _, a := range w.Arrays {
		arrays = append(arrays, make([]int, a.Size))
	}
	met := map[string]int{}
	isRead := func(n flow.Next) bool { return w.Edges[n.Edge].Act.Kind == "read" }
	for range 200 {
		now := fmt.Sprint(at, vars, arrays, len(input))
		if met[now]++; met[now] > 1 {
			break
		}
		number := 0
		if len(input) > 0 {
			number = input[0]
		}
		l := w.steps(t, at, vars, arrays, number)
		if len(input) == 0 && slices.ContainsFunc(l, isRead) {
			asked = true
			l = slices.DeleteFunc(l, isRead)
		}
		failed := false
		for _, n := range l {
			if w.Edges[n.Edge].Act.Kind == "fail" {
				failed = true
				w.went[n.Edge]++
			}
		}
		if failed || len(l) == 0 {
			break
		}
		if isRead(l[0]) {
			input = input[1:]
		}
		at, vars, arrays = l[0].To, l[0].Vars, l[0].Arrays
	}
	return len(input), asked
}

// shownSafe edges `fail`: by one of the three tables that the document names.
func shownSafe(t *testing.T, g flow.Graph) map[int]int {
	t.Helper()
	four, three := relate.Choice{0, 1, 2, 3}, hull.Choice{0, 1, 2}
	states, err1 := scan.Scan(g, nil)
	octagons, err2 := relate.Scan(g, four)
	hulls, err3 := hull.Scan(g, three)
	if err1 != nil || err2 != nil || err3 != nil {
		t.Fatal(err1, err2, err3)
	}
	safe := map[int]int{}
	for i, e := range g.Edges {
		if e.Act.Kind != "fail" {
			continue
		}
		if s, err := scan.Go(g, states[e.From], e.Act); err == nil && s.None {
			safe[i]++
		}
		if o, err := relate.Go(g, four, octagons[e.From], e.Act); err == nil && o.None {
			safe[i]++
		}
		if p, err := hull.Go(g, three, hulls[e.From], e.Act); err == nil {
			if none, err := poly.Empty(p); err == nil && none {
				safe[i]++
			}
		}
	}
	return safe
}

// P211: programs at random, against walks by words, and against what the tables show.
func TestTriageRandom(t *testing.T) {
	seen := map[string]int{}
	programs(t, 2, 300, func(p lang.Program, r *rand.Rand) {
		g, err := flow.Build(p)
		if err != nil || flow.Valid(g) != nil {
			return
		}
		went, safe, l := gone(t, g), shownSafe(t, g), sorted(t, p, 1+r.Intn(api.Workers))
		for i, e := range g.Edges {
			if e.Act.Kind != "fail" {
				continue
			}
			if len(l) == 0 || l[0].Edge != i {
				t.Fatal(l, i)
			}
			kind := l[0].Kind
			l = l[1:]
			seen[kind]++
			if safe[i] > 0 && kind != "safe" || kind == "safe" && went[i] > 0 || kind != "safe" && (kind == "fails") != (went[i] > 0) {
				text, _ := lang.Text(p)
				t.Fatalf("%s%d: %s, gone along %d, shown %v", text, i, kind, went[i], safe[i])
			}
		}
		if len(l) > 0 {
			t.Fatal(l)
		}
	})
	for _, kind := range []string{"safe", "fails", "open"} {
		if seen[kind] < 10 {
			t.Error(seen)
		}
	}
}

package flow

import (
	"fmt"
	"math"
	"testing"

	"raycone/api"
	"raycone/lang"
)

// P132: which edges can be taken, and what comes of them.
func TestSteps(t *testing.T) {
	const head = "var x;var y;array a[3];main{"
	for _, c := range []struct {
		main string
		at   int
		x, y int
		want string
	}{
		{"", 0, 1, 2, "[]"},
		{"x=y+1;", 0, 1, 2, "[{0 1 [3 2] [[7 8 9]]}]"},
		{"x=y+1;", 1, 1, 2, "[]"},
		{"x=1;y=x;", 1, 4, 2, "[{1 2 [4 4] [[7 8 9]]}]"},
		{"x=y/0;", 0, 1, 2, "[]"},
		{"x=1%(y-2);", 0, 1, 2, "[]"},
		{"x=y*y;", 0, 1, 1 << 20, "[{0 1 [1099511627776 1048576] [[7 8 9]]}]"},
		{"x=y*y;", 0, 1, 1<<20 + 1, "[]"},
		{"x=y*y-y*y;", 0, 1, 1<<20 + 1, "[]"},
		{"x=-7/2+y%4;", 0, 0, -7, "[{0 1 [-6 -7] [[7 8 9]]}]"},
		{"x=a[y];", 0, 1, 2, "[{0 1 [9 2] [[7 8 9]]}]"},
		{"x=a[y];", 0, 1, 3, "[]"},
		{"x=a[y];", 0, 1, -1, "[]"},
		{"a[x]=y;", 0, 1, 5, "[{0 1 [1 5] [[7 5 9]]}]"},
		{"a[x]=y;", 0, 3, 5, "[]"},
		{"a[x]=y/0;", 0, 1, 5, "[]"},
		{"a[a[0]-6]=a[2];", 0, 1, 5, "[{0 1 [1 5] [[7 9 9]]}]"},
		{"read y;", 0, 1, 2, "[{0 1 [1 11] [[7 8 9]]}]"},
		{"assume true;", 0, 1, 2, "[{0 1 [1 2] [[7 8 9]]}]"},
		{"assume false;", 0, 1, 2, "[]"},
		{"assume x<y;", 0, 1, 2, "[{0 1 [1 2] [[7 8 9]]}]"},
		{"assume x<y;", 0, 2, 2, "[]"},
		{"assume x<=y;", 0, 2, 2, "[{0 1 [2 2] [[7 8 9]]}]"},
		{"assume x<=y;", 0, 3, 2, "[]"},
		{"assume x==y;", 0, 2, 2, "[{0 1 [2 2] [[7 8 9]]}]"},
		{"assume x==y;", 0, 3, 2, "[]"},
		{"assume x!=y;", 0, 3, 2, "[{0 1 [3 2] [[7 8 9]]}]"},
		{"assume x!=y;", 0, 2, 2, "[]"},
		{"assume x>y;", 0, 3, 2, "[{0 1 [3 2] [[7 8 9]]}]"},
		{"assume x>y;", 0, 2, 2, "[]"},
		{"assume x>=y;", 0, 2, 2, "[{0 1 [2 2] [[7 8 9]]}]"},
		{"assume x>=y;", 0, 1, 2, "[]"},
		{"assume x<2 and y<2;", 0, 1, 1, "[{0 1 [1 1] [[7 8 9]]}]"},
		{"assume x<2 and y<2;", 0, 1, 2, "[]"},
		{"assume x<2 and y<2;", 0, 2, 1, "[]"},
		{"assume x<2 or y<2;", 0, 1, 1, "[{0 1 [1 1] [[7 8 9]]} {1 1 [1 1] [[7 8 9]]}]"},
		{"assume x<2 or y<2;", 0, 2, 1, "[{1 1 [2 1] [[7 8 9]]}]"},
		// Something wrong, ahead of or behind a test that holds or does not.
		{"assume 1/x>5 or y<2;", 0, 0, 1, "[{1 1 [0 1] [[7 8 9]]}]"},
		{"assume y<2 and 1/x>5;", 0, 0, 1, "[]"},
		{"assume y<2 and 1/x!=5;", 0, 0, 5, "[]"},
		{"assume 1/x!=5 and y<2;", 0, 0, 1, "[]"},
		{"assume x!=0 and 1/x!=5 or y<2;", 0, 0, 1, "[{1 1 [0 1] [[7 8 9]]}]"},
		// Edges fail, too, are taken, and all at which a point has edges.
		{"assert x<2;", 0, 1, 1, "[{1 2 [1 1] [[7 8 9]]}]"},
		{"assert x<2;", 0, 2, 1, "[{0 1 [2 1] [[7 8 9]]}]"},
		{"assert x<2;", 1, 2, 1, "[]"},
		{"assert false;", 0, 2, 1, "[{0 1 [2 1] [[7 8 9]]}]"},
		{"assert x<2 and y<2;", 0, 2, 2, "[{0 1 [2 2] [[7 8 9]]} {1 1 [2 2] [[7 8 9]]}]"},
		{"while x<2{x=5;}", 0, 2, 2, "[{0 1 [2 2] [[7 8 9]]}]"},
		{"while x<2{x=5;}", 1, 1, 2, "[{1 2 [1 2] [[7 8 9]]}]"},
		{"while x<2{x=5;}", 3, 5, 2, "[{3 1 [5 2] [[7 8 9]]}]"},
		{"while x<2{x=5;}", 1, 5, 2, "[{4 4 [5 2] [[7 8 9]]}]"},
	} {
		l, err := Steps(built(t, head+c.main+"}"), c.at, []int{c.x, c.y}, [][]int{{7, 8, 9}}, 11)
		if got := fmt.Sprint(l); got != c.want || err != nil {
			t.Errorf("%s at %d, %d %d: %s %v, want %s", c.main, c.at, c.x, c.y, got, err, c.want)
		}
	}
}

// P132: edges of one point in the order of the list, whoever made the graph.
func TestStepsInOrder(t *testing.T) {
	set := func(n int) Act { return Act{Kind: "set", Name: "x", Args: []lang.Expr{num(n)}} }
	fail := Act{Kind: "fail", Tests: []lang.Test{{A: variable("x"), Rel: "==", B: num(0)}}}
	g := Graph{Vars: []string{"x"}, Points: 3, Edges: []Edge{{1, 2, set(5)}, {0, 1, set(6)}, {1, 0, Act{Kind: "skip"}}, {1, 1, set(7)}, {1, 2, fail}, {2, 1, set(8)}, {1, 2, set(9)}}}
	l, err := Steps(g, 1, []int{0}, nil, 0)
	if got := fmt.Sprint(l); got != "[{0 2 [5] []} {2 0 [0] []} {3 1 [7] []} {4 2 [0] []} {6 2 [9] []}]" || err != nil {
		t.Error(got, err)
	}
	l, err = Steps(Graph{Points: 1, Edges: skips(2)}, 0, nil, nil, 0)
	if len(l) != 2 || l[1].Edge != 1 || len(l[0].Vars)+len(l[0].Arrays) > 0 || err != nil {
		t.Error(l, err)
	}
}

// P132: the bounds of the input, and the number of numbers.
func TestStepsErrors(t *testing.T) {
	g := built(t, "var x;var y;array a[2];array b[1];main{read x;}")
	vars, arrays := []int{0, 0}, [][]int{{0, 0}, {0}}
	for _, c := range []struct {
		g      Graph
		at     int
		vars   []int
		arrays [][]int
		input  int
		want   error
	}{
		{g, 0, vars, arrays, api.MaxValue, nil},
		{g, 0, vars, arrays, -api.MaxValue, nil},
		{g, 1, vars, arrays, 0, nil},
		{g, 0, vars, arrays, api.MaxValue + 1, api.ErrShape},
		{g, 0, vars, arrays, -api.MaxValue - 1, api.ErrShape},
		{g, 0, vars, arrays, math.MinInt, api.ErrShape},
		{g, 1, vars, arrays, math.MaxInt, api.ErrShape},
		{g, -1, vars, arrays, 0, api.ErrShape},
		{g, 2, vars, arrays, 0, api.ErrShape},
		{g, math.MaxInt, vars, arrays, 0, api.ErrShape},
		{g, math.MinInt, vars, arrays, 0, api.ErrShape},
		{g, 0, nil, arrays, 0, api.ErrShape},
		{g, 1, nil, arrays, 0, api.ErrShape},
		{g, 0, []int{0}, arrays, 0, api.ErrShape},
		{g, 0, []int{0, 0, 0}, arrays, 0, api.ErrShape},
		{g, 0, vars, nil, 0, api.ErrShape},
		{g, 0, vars, [][]int{{0, 0}}, 0, api.ErrShape},
		{g, 0, vars, [][]int{{0, 0}, {0}, {0}}, 0, api.ErrShape},
		{g, 0, vars, [][]int{{0, 0}, nil}, 0, api.ErrShape},
		{g, 0, vars, [][]int{{0}, {0, 0}}, 0, api.ErrShape},
		{g, 1, vars, [][]int{{0, 0}, {0, 0}}, 0, api.ErrShape},
		{Graph{Points: 1}, 0, nil, nil, 0, nil},
		{Graph{Points: 1}, 0, []int{}, [][]int{}, 0, nil},
		{Graph{Points: 1}, 0, []int{0}, nil, 0, api.ErrShape},
		{Graph{}, 0, nil, nil, 0, api.ErrShape},
		{Graph{Points: 1, Heads: []int{1}}, 0, nil, nil, 0, api.ErrShape},
	} {
		l, err := Steps(c.g, c.at, c.vars, c.arrays, c.input)
		if err != c.want || err != nil && len(l) > 0 {
			t.Errorf("%d %v %v %d: %v %v", c.at, c.vars, c.arrays, c.input, l, err)
		}
	}
	l, _ := Steps(g, 0, vars, arrays, -api.MaxValue)
	if got := fmt.Sprint(l); got != "[{0 1 [-1099511627776 0] [[0 0] [0]]}]" {
		t.Error(got)
	}
}

// P1, P121: values that no program has are no error; an act that uses one is wrong, so that its edge can't be taken.
func TestStepsTooGreat(t *testing.T) {
	for _, great := range []int{api.MaxValue + 1, -api.MaxValue - 1, math.MaxInt, math.MinInt} {
		for main, taken := range map[string]int{"x=1;": 1, "read x;": 1, "while y==0{}": 1, "assume y==0;": 1, "y=x;": 0, "y=x*x;": 0, "y=0-x;": 0, "assert x<1;": 0, "y=a[0];": 0, "y=a[1];": 1, "a[x]=1;": 0, "a[0]=1;": 1} {
			l, err := Steps(built(t, "var x;var y;array a[2];main{"+main+"}"), 0, []int{great, 0}, [][]int{{great, 0}}, 0)
			if len(l) != taken || err != nil {
				t.Errorf("%s %d: %v %v", main, great, l, err)
			}
		}
	}
}

// P4: each answer is new memory, and what is handed over is only read.
func TestStepsAreNew(t *testing.T) {
	g := built(t, "var x;var y;array a[2];array b[1];main{assume true or true or true;}")
	vars, arrays := []int{1, 2}, [][]int{{3, 4}, {5}}
	before := told(g)
	l, err := Steps(g, 0, vars, arrays, 0)
	if len(l) != 3 || err != nil {
		t.Fatal(l, err)
	}
	n := 0
	var lists [][]int
	for _, x := range l {
		lists = append(lists, x.Vars, x.Arrays[0], x.Arrays[1])
	}
	for _, x := range lists {
		for i := range x[:cap(x)] {
			n++
			x[:cap(x)][i] = 100 + n
		}
	}
	n = 0
	for _, x := range lists {
		for i := range x[:cap(x)] {
			n++
			if x[:cap(x)][i] != 100+n {
				t.Fatal(lists)
			}
		}
	}
	if fmt.Sprint(vars, arrays) != "[1 2] [[3 4] [5]]" || told(g) != before {
		t.Error(vars, arrays, g)
	}
}

package flow

import (
	"fmt"
	"strings"
	"testing"
	"time"

	"raycone/api"
	"raycone/lang"
)

// P131: how each statement is laid.
func TestBuild(t *testing.T) {
	for _, c := range []struct{ main, want string }{
		{"", "1[] "},
		{"x=y+1;", "2[] 0>1 set x (y+1)"},
		{"x=1;y=-x;read x;", "4[] 0>1 set x 1; 1>2 set y -x; 2>3 read x"},
		{"a[x]=a[y]*2;", "2[] 0>1 put a x (a[y]*2)"},
		{"assume x<1;", "2[] 0>1 test x<1"},
		{"assume x<1 and y>2 or x==y;read x;", "3[] 0>1 test x<1&y>2; 0>1 test x==y; 1>2 read x"},
		{"assume true;", "2[] 0>1 test"},
		{"assume true or x<1;", "2[] 0>1 test; 0>1 test x<1"},
		{"assume false;read x;", "3[] 1>2 read x"},
		{"assert x<1;read x;", "4[] 0>1 fail x>=1; 0>2 test x<1; 2>3 read x"},
		{"assert x<1 and y>2 or x==y;", "3[] 0>1 fail x>=1&x!=y; 0>1 fail y<=2&x!=y; 0>2 test x<1&y>2; 0>2 test x==y"},
		{"assert true;read x;", "4[] 0>2 test; 2>3 read x"},
		{"assert false;read x;", "4[] 0>1 fail; 2>3 read x"},
		{"if x<1{}", "4[] 0>1 test x<1; 0>2 test x>=1; 1>3 skip; 2>3 skip"},
		{"if x<1{x=1;}else{x=2;y=3;}read x;", "8[] 0>1 test x<1; 1>2 set x 1; 0>3 test x>=1; 3>4 set x 2; 4>5 set y 3; 2>6 skip; 5>6 skip; 6>7 read x"},
		{"if x<1 or y<2{}", "4[] 0>1 test x<1; 0>1 test y<2; 0>2 test x>=1&y>=2; 1>3 skip; 2>3 skip"},
		{"if true{read x;}else{read y;}", "6[] 0>1 test; 1>2 read x; 3>4 read y; 2>5 skip; 4>5 skip"},
		{"if false{read x;}else{read y;}", "6[] 1>2 read x; 0>3 test; 3>4 read y; 2>5 skip; 4>5 skip"},
		{"if x<1{if y<2{}else{read x;}}", "8[] 0>1 test x<1; 1>2 test y<2; 1>3 test y>=2; 3>4 read x; 2>5 skip; 4>5 skip; 0>6 test x>=1; 5>7 skip; 6>7 skip"},
		{"while x<1{x=x+1;}read y;", "6[1] 0>1 skip; 1>2 test x<1; 2>3 set x (x+1); 3>1 skip; 1>4 test x>=1; 4>5 read y"},
		{"while x<1 and y<2{}", "4[1] 0>1 skip; 1>2 test x<1&y<2; 2>1 skip; 1>3 test x>=1; 1>3 test y>=2"},
		{"while true{}read y;", "5[1] 0>1 skip; 1>2 test; 2>1 skip; 3>4 read y"},
		{"while false{read x;}", "5[1] 0>1 skip; 2>3 read x; 3>1 skip; 1>4 test"},
		{"while x<1{while y<2{}}while x<3{}", "10[1 3 7] 0>1 skip; 1>2 test x<1; 2>3 skip; 3>4 test y<2; 4>3 skip; 3>5 test y>=2; 5>1 skip; 1>6 test x>=1; 6>7 skip; 7>8 test x<3; 8>7 skip; 7>9 test x>=3"},
	} {
		g := built(t, "var x;var y;array a[4];main{"+c.main+"}")
		if got := text(g); got != c.want {
			t.Errorf("%s: %s, want %s", c.main, got, c.want)
		}
		if fmt.Sprint(g.Vars, g.Arrays) != "[x y] [{a 4}]" {
			t.Error(g.Vars, g.Arrays)
		}
		if err := Valid(g); err != nil {
			t.Error(c.main, err)
		}
	}
}

// P131: the graph is that of p inlined: parameters are variables behind the others, and no call is left.
func TestBuildCalls(t *testing.T) {
	g := built(t, "var x;array b[1];array a[2];proc f(u){if u<0{u=-u;}return u;}proc g(v,w){v=call f(v);return v*w;}main{x=call g(x,2);x=call f(1);}")
	if got := fmt.Sprint(g.Vars, g.Arrays); got != "[x u v w] [{b 1} {a 2}]" {
		t.Error(got)
	}
	want := "16[] 0>1 set v x; 1>2 set w 2; 2>3 set u v; 3>4 test u<0; 4>5 set u -u; 3>6 test u>=0; 5>7 skip; 6>7 skip; 7>8 set v u; 8>9 set x (v*w); " +
		"9>10 set u 1; 10>11 test u<0; 11>12 set u -u; 10>13 test u>=0; 12>14 skip; 13>14 skip; 14>15 set x u"
	if got := text(g); got != want {
		t.Error(got)
	}
}

// P131: the opposite of a condition: the order of its rows, and of their tests.
func TestOpposite(t *testing.T) {
	for cond, want := range map[string]string{
		"x<1":                             "x>=1",
		"x<=1":                            "x>1",
		"x==1":                            "x!=1",
		"x!=1":                            "x==1",
		"x>1":                             "x<=1",
		"x>=1":                            "x<1",
		"false":                           "",
		"x<1 or true":                     "no",
		"true or x<1":                     "no",
		"true":                            "no",
		"true or true":                    "no",
		"x<1 and x<2 and x<3":             "x>=1; x>=2; x>=3",
		"x<1 or x<2 or x<3":               "x>=1&x>=2&x>=3",
		"x<1 and x<2 or x<3":              "x>=1&x>=3; x>=2&x>=3",
		"x<1 and x<2 or x<3 and x<4":      "x>=1&x>=3; x>=1&x>=4; x>=2&x>=3; x>=2&x>=4",
		"x<1 or x<2 and x<3 and x<4":      "x>=1&x>=2; x>=1&x>=3; x>=1&x>=4",
		"x<1 and x<1 or x<1":              "x>=1&x>=1; x>=1&x>=1",
		"a[x]+1>y/2 and a[0]==-x or -1<x": "(a[x]+1)<=(y/2)&-1>=x; a[0]!=-x&-1>=x",
		"x<1 and x<2 or x<3 and x<4 and x<5 or x<6 and x<7": "x>=1&x>=3&x>=6; x>=1&x>=3&x>=7; x>=1&x>=4&x>=6; x>=1&x>=4&x>=7; x>=1&x>=5&x>=6; x>=1&x>=5&x>=7; " +
			"x>=2&x>=3&x>=6; x>=2&x>=3&x>=7; x>=2&x>=4&x>=6; x>=2&x>=4&x>=7; x>=2&x>=5&x>=6; x>=2&x>=5&x>=7",
	} {
		g := built(t, "var x;var y;array a[2];main{assert "+cond+";}")
		var rows []string
		for _, e := range g.Edges {
			if e.Act.Kind == "fail" {
				rows = append(rows, row(e.Act.Tests))
			}
		}
		got := strings.Join(rows, "; ")
		if len(rows) == 0 {
			got = "no"
		}
		if got != want {
			t.Errorf("%s: %s, want %s", cond, got, want)
		}
	}
}

// isZero: nothing is told beside an error.
func isZero(g Graph) bool { return told(g) == told(Graph{}) }

// P131: no more than MaxPoints points and 400 edges.
func TestBuildBounds(t *testing.T) {
	many := strings.Repeat
	rows := func(n int) string { return strings.TrimSuffix(many("x<1 or ", n), " or ") }
	for _, c := range []struct {
		main          string
		points, edges int // 0: too much
	}{
		{many("x=1;", 119), 120, 119},
		{many("x=1;", 120), 0, 0},
		{many("x=1;", 117) + "assert x<1;", 120, 119},
		{many("x=1;", 118) + "assert x<1;", 0, 0},
		{many("assert true;", 59) + "x=1;", 120, 60},
		{many("assert true;", 60), 0, 0},
		{many("if x<1{}", 39) + "x=1;x=1;", 120, 158},
		{many("if x<1{}", 40), 0, 0},
		{many("while x<1{}", 39) + "x=1;x=1;", 120, 158},
		{many("while x<1{}", 40), 0, 0},
		{"while x<1{" + many("x=1;", 116) + "}", 120, 120},
		{"while x<1{" + many("x=1;", 117) + "}", 0, 0},
		{many("if x<1{", 11) + many("x=1;", 86) + many("}", 11), 120, 130},
		{many("if x<1{", 11) + many("x=1;", 87) + many("}", 11), 0, 0},
		{"assume " + rows(400) + ";", 2, 400},
		{"assume " + rows(401) + ";", 0, 0},
		{"assume " + rows(399) + ";x=1;", 3, 400},
		{"assume " + rows(400) + ";x=1;", 0, 0},
		{"assert " + rows(399) + ";", 3, 400},
		{"assert " + rows(400) + ";", 0, 0},
		{"if " + rows(397) + "{}", 4, 400},
		{"if " + rows(398) + "{}", 0, 0},
		{"while " + rows(397) + "{}", 4, 400},
		{"while " + rows(398) + "{}", 0, 0},
		{"assume " + rows(200) + ";assume " + rows(200) + ";", 3, 400},
		{"assume " + rows(200) + ";assume " + rows(201) + ";", 0, 0},
	} {
		g, err := Build(read(t, "var x;main{"+c.main+"}"))
		switch {
		case c.points == 0 && (err != api.ErrBound || !isZero(g)):
			t.Errorf("%.40s: %d %d %v", c.main, g.Points, len(g.Edges), err)
		case c.points > 0 && (err != nil || g.Points != c.points || len(g.Edges) != c.edges):
			t.Errorf("%.40s: %d %d %v", c.main, g.Points, len(g.Edges), err)
		}
	}
}

// P1, P131: opposites that nobody could lay end soon; a row that holds makes them none at all.
func TestBuildManyOpposites(t *testing.T) {
	many := strings.Repeat
	started := time.Now()
	for _, c := range []struct {
		cond  string
		edges int // of the assert; 0: too many
	}{
		{many("x<1 and x<2 or ", 8) + "x<3", 256 + 9},
		{many("x<1 and x<2 or ", 9) + "x<3", 0},
		{many("x<1 and x<2 or ", 64) + "x<3", 0},
		{many("x<1 and x<2 or ", 200) + "x<3", 0},
		{many("x<1 and x<2 or ", 200) + "true", 201},
		{"true or " + many("x<1 and x<2 or ", 199) + "x<3", 201},
		{many("x<1 and x<2 or ", 100) + "true or " + many("x<1 and x<2 or ", 99) + "x<3", 201},
		{many("x<1 and ", 380) + "x<2", 382},
	} {
		g, err := Build(read(t, "var x;main{assert "+c.cond+";}"))
		switch {
		case c.edges == 0 && (err != api.ErrBound || !isZero(g)):
			t.Errorf("%.40s: %d %v", c.cond, len(g.Edges), err)
		case c.edges > 0 && (err != nil || len(g.Edges) != c.edges):
			t.Errorf("%.40s: %d %v", c.cond, len(g.Edges), err)
		}
	}
	// Each call lays 198 fails, a test and a set.
	calls := "var x;proc f(){assert " + many("x<1 and ", 197) + "x<2;return 1;}main{x=call f();x=call f();"
	if g := built(t, calls+"}"); len(g.Edges) != 400 {
		t.Error(len(g.Edges))
	}
	if g, err := Build(read(t, calls+"x=1;}")); err != api.ErrBound || !isZero(g) {
		t.Error(len(g.Edges), err)
	}
	// Each call would lay hundreds of rows of hundreds of tests.
	cond := many("x<1 and x<2 or ", 9) + many("x<1 or ", 350) + "x<3"
	p := read(t, "var x;proc f(){assert "+cond+";return 1;}main{"+many("x=call f();", 12)+"}")
	if g, err := Build(p); err != api.ErrBound || !isZero(g) {
		t.Error(len(g.Edges), err)
	}
	if d := time.Since(started); d > 20*time.Second {
		t.Error(d)
	}
}

// P131: check.Inline's errors, and nothing beside them.
func TestBuildErrors(t *testing.T) {
	one := []lang.Expr{{Op: "num", N: 1}}
	deep := strings.Repeat("if true{", 11) + "x=call f();" + strings.Repeat("}", 11)
	for _, c := range []struct {
		p    lang.Program
		want error
	}{
		{lang.Program{Main: []lang.Stmt{{Kind: "skip"}}}, api.ErrShape},
		{lang.Program{Main: []lang.Stmt{{}}}, api.ErrShape},
		{lang.Program{Vars: []string{"x"}, Main: []lang.Stmt{{Kind: "set", Name: "x"}}}, api.ErrShape},
		{lang.Program{Vars: []string{"main"}}, api.ErrShape},
		{read(t, "array a[17];main{}"), api.ErrBound},
		{read(t, "var a;var b;var c;var d;var e;var f;var g;var h;var i;var j;var k;var l;var m;main{}"), api.ErrBound},
		{lang.Program{Main: []lang.Stmt{{Kind: "set", Name: "x", Args: one}}}, api.ErrName},
		{read(t, "var x;var x;main{}"), api.ErrName},
		{read(t, "var x;proc f(u){return u;}main{x=call f();}"), api.ErrShape},
		{read(t, "var x;proc f(){"+strings.Repeat("x=1;", 100)+"return 1;}main{x=call f();x=call f();x=call f();x=call f();}"), api.ErrBound},
		{read(t, "var x;proc f(){if true{}return 1;}main{"+deep+"}"), nil},
		{read(t, "var x;proc f(){if true{x=1;}return 1;}main{"+deep+"}"), api.ErrBound},
	} {
		g, err := Build(c.p)
		if err != c.want || err != nil && !isZero(g) {
			t.Errorf("%.200s: %.200s %v, want %v", told(c.p), told(g), err, c.want)
		}
	}
}

// P131, P132: what is turned round may have a text that is too long, though the program's is not: its graph is built, and is not valid.
func TestBuildLong(t *testing.T) {
	rows := func(n int) string { return strings.TrimSuffix(strings.Repeat("x<1 or ", n), " or ") }
	g := built(t, "var x;main{assert "+rows(350)+";}")
	if err := Valid(g); err != nil {
		t.Error(err)
	}
	g = built(t, "var x;main{assert "+rows(399)+";}")
	if err := Valid(g); err != api.ErrShape {
		t.Error(err)
	}
	if l, err := Steps(g, 0, []int{0}, nil, 0); err != api.ErrShape || len(l) > 0 {
		t.Error(len(l), err)
	}
}

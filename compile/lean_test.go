package compile

import (
	"math/rand"
	"strings"
	"testing"
	"time"

	"raycone/api"
	"raycone/flow"
	"raycone/interval"
	"raycone/lang"
	"raycone/scan"
)

// lean code that has no error, and how many checks were left out.
func lean(t *testing.T, p lang.Program) (Code, int) {
	t.Helper()
	c, less, err := Lean(p)
	if err != nil {
		t.Fatalf("%+v: %v", p, err)
	}
	return c, less
}

func isCheck(o Op) bool { return o.Name == "small" || o.Name == "nonzero" || o.Name == "within" }

// checks of code: how many there are.
func checks(c Code) int {
	n := 0
	for _, o := range c.Ops {
		if isCheck(o) {
			n++
		}
	}
	return n
}

// P203: which checks stay.
func TestLean(t *testing.T) {
	for main, want := range map[string]string{
		"x=1+2;x=6/3;":                       "push 1, push 2, add, store 0, push 6, push 3, div, store 0",
		"x=y+1;":                             "load 1, push 1, add, store 0",
		"read x;y=x+1;":                      "read, store 0, load 0, push 1, add, small, store 1",
		"read x;y=x/2+1;":                    "read, store 0, load 0, push 2, div, push 1, add, store 1",
		"read x;y=x%7*3-x/x;":                "read, store 0, load 0, push 7, rem, push 3, mul, load 0, load 0, nonzero, div, sub, small, store 1",
		"read x;y=a[x];":                     "read, store 0, load 0, within 3, get 0, store 1",
		"read x;y=a[x%3+0];":                 "read, store 0, load 0, push 3, rem, push 0, add, within 3, get 0, store 1",
		"read x;a[2]=x-1;":                   "read, store 0, push 2, load 0, push 1, sub, small, put 0",
		"a[3]=1;":                            "push 3, within 3, push 1, put 0",
		"b[y]=a[x];":                         "load 1, load 0, get 0, put 1",
		"x=1/0;":                             "push 1, push 0, nonzero, div, store 0",
		"x=5%(3-3);":                         "push 5, push 3, push 3, sub, nonzero, rem, store 0",
		"x=1099511627776+0;":                 "push 1099511627776, push 0, add, store 0",
		"x=1099511627776+1;":                 "push 1099511627776, push 1, add, small, store 0",
		"x=0-1099511627776;":                 "push 0, push 1099511627776, sub, store 0",
		"x=1048576*1048576;":                 "push 1048576, push 1048576, mul, store 0",
		"x=1048576*1048577;":                 "push 1048576, push 1048577, mul, small, store 0",
		"x=-1099511627776-1;":                "push 1099511627776, neg, push 1, sub, small, store 0",
		"read x;assume x>0;y=7/x;":           "read, store 0, push 0, load 0, lt, assume, push 7, load 0, div, store 1",
		"read x;assert x>=0 and x<3;y=a[x];": "read, store 0, push 0, load 0, le, assert, load 0, push 3, lt, assert, load 0, get 0, store 1",
		// What never comes there goes wrong nowhere.
		"assume false;x=1/0;a[9]=x*x;": "push 0, assume, push 1, push 0, div, store 0, push 9, load 0, load 0, mul, put 0",
	} {
		p := read(t, "var x;var y;array a[3];array b[1];main{"+main+"}")
		c, less := lean(t, p)
		if got := said(c); got != want || less != checks(compiled(t, p))-checks(c) {
			t.Errorf("%s: %s %d, want %s", main, got, less, want)
		}
	}
}

// P203: a test is looked at where those ahead of it in its row hold, and a row where none ahead of it does.
func TestLeanConditions(t *testing.T) {
	for main, stay := range map[string]int{
		"read x;if x>=0 and x<3 and a[x]>0{y=10/a[x];}":                                                      0,
		"read x;if x>=0 and a[x]>0 and x<3{}":                                                                1,
		"read x;if a[x]>0 and x>=0 and x<3{}":                                                                1,
		"read x;if x<0 or x>=3 or a[x]>0{}":                                                                  0,
		"read x;if x<0 or a[x]>0 or x>=3{}":                                                                  1,
		"read x;if x<0 or x>=3{}else{y=a[x];}":                                                               0,
		"read x;assert x<=0 or 10/x>1;":                                                                      0,
		"read x;assert x<0 or 10/x>1;":                                                                       1,
		"read x;assume x>9 and x<=20 or 5/(x+1)==0;":                                                         2, // x + 1 may be too great, or 0
		"read x;assume x>9 or x<-1 or 5/(x+2)==0;":                                                           0,
		"read x;assume x>9 and y==1 or x<-1 or 5/(x+2)==0;":                                                  1, // y is 0: so x may be anything, but below -1 it is not
		"read x;read y;if x<1 and y<1 or 6/(x*x+y*y)>0{}":                                                    4, // one of them may be 0
		"read x;if x<1 or x>9 or x>4 and 6/x>0 or 7/x>0{}":                                                   0,
		"read x;while x<0 or x>=3 or a[x]>0{read x;}y=a[x];":                                                 0,
		"read x;assert true or 1/x>0;":                                                                       0, // it is not looked at
		"read x;if x<0 and x>0 and 1/x>0{y=1/x;}":                                                            0,
		"read x;if 1/x>0 or x<=0 or 1/x>=0{}":                                                                1,
		"read x;if x!=0 and 5/x>0{}":                                                                         1, // no interval tells it
		"while x<3{a[x]=x*x;x=x+1;}":                                                                         0,
		"while x<4{a[x]=x*x;x=x+1;}":                                                                         1,
		"while x<3 and a[x]==0{x=x+1;}":                                                                      0,
		"x=2;while x>=0{a[x]=a[x]+1;x=x-1;}":                                                                 1,
		"while y<100{y=y+1;if x<2{x=x+1;}a[x]=y;}":                                                           0,
		"while y<100{y=y+1;if x>-2{x=x-1;}a[-x]=y;}":                                                         0,
		"while y<100{while z<10{z=z+1;if x<2{x=x+1;}}z=0;y=y+1;a[x]=y;}":                                     0,
		"while y<100{while z<10{z=z+1;if x<=1{x=x+1;}}z=0;y=y+1;a[x]=y;}":                                    0,
		"while y<100{while z<10{z=z+1;if x>-2{x=x-1;}}z=0;y=y+1;a[-x]=y;}":                                   0,
		"while y<100{while z<10{z=z+1;if x>=-1{x=x-1;}}z=0;y=y+1;a[-x]=y;}":                                  0,
		"while y<9" + strings.Repeat(" and y<9", 10) + "{while z<10{z=z+1;if x<2{x=x+1;}}z=0;y=y+1;a[x]=y;}": 0,
		"while y<9" + strings.Repeat(" and y<1", 10) + "{while z<10{z=z+1;if x<2{x=x+1;}}z=0;y=y+1;a[x]=y;}": 0,
		"while x<1099511627776{x=x+1;}":                                                                      0,
		"while x>-1099511627776{x=x-1;}":                                                                     0,
		"while y<100{y=y+1;x=(x+1)%3;a[x]=y;}":                                                               0,
	} {
		p := read(t, "var x;var y;var z;array a[3];main{"+main+"}")
		c, _ := lean(t, p)
		if got := checks(c); got != stay {
			t.Errorf("%s: %d, want %d: %s", main, got, stay, said(c))
		}
	}
}

// P203: of a program whose graph is too great nothing is shown: then it is as Compile makes it.
func TestLeanWithoutGraph(t *testing.T) {
	for _, c := range []struct {
		main string
		less int
	}{
		{strings.Repeat("x=1+1;", 119), 119},
		{strings.Repeat("x=1+1;", 120), 0},
		{"x=1+1;assert " + strings.Repeat("x<1 and x<2 or ", 9) + "x<3;", 0},
	} {
		p := read(t, "var x;main{"+c.main+"}")
		got, less := lean(t, p)
		if less != c.less || c.less == 0 && said(got) != said(compiled(t, p)) {
			t.Errorf("%.40s: %d, want %d", c.main, less, c.less)
		}
	}
}

// shownBy a table: how many checks of what is set and put, by Eval at the point where it stands.
func shownBy(t *testing.T, g flow.Graph, table scan.Table) int {
	t.Helper()
	shown, names := 0, flow.Graph{Vars: g.Vars, Arrays: g.Arrays, Points: 1}
	for _, e := range g.Edges {
		if e.Act.Kind != "set" && e.Act.Kind != "put" {
			continue
		}
		eval := func(x lang.Expr) (api.Interval, bool) {
			a, ok, err := scan.Eval(names, table[e.From], x)
			if err != nil {
				t.Fatal(err)
			}
			return a, ok
		}
		size := func(name string) int {
			for _, a := range g.Arrays {
				if a.Name == name {
					return a.Size
				}
			}
			return 0
		}
		var look func(x lang.Expr)
		look = func(x lang.Expr) {
			for _, part := range x.L {
				look(part)
			}
			if strings.Contains("+-*", x.Op) {
				a, ok := eval(x.L[0])
				b, too := eval(x.L[1])
				sum, err := map[string]func(a, b api.Interval) (api.Interval, error){"+": interval.Add, "-": interval.Sub, "*": interval.Mul}[x.Op](a, b)
				if ok && too && err == nil && !sum.Down && !sum.Up {
					shown++
				}
			}
			if x.Op == "/" || x.Op == "%" {
				if b, ok := eval(x.L[1]); ok && !interval.Has(b, 0) {
					shown++
				}
			}
			if x.Op == "at" {
				if at, ok := eval(x.L[0]); ok && !at.Down && !at.Up && at.Low >= 0 && at.High < size(x.Name) {
					shown++
				}
			}
		}
		for _, x := range e.Act.Args {
			look(x)
		}
		if e.Act.Kind == "put" {
			if at, ok := eval(e.Act.Args[0]); ok && !at.Down && !at.Up && at.Low >= 0 && at.High < size(e.Act.Name) {
				shown++
			}
		}
	}
	return shown
}

// P203, P204: lean code is compiled code without some checks, of which there are no fewer than Eval shows; it ends as the machine does.
func TestLeanEndsSo(t *testing.T) {
	seen := map[string]int{}
	programs(t, 203, 2500, func(p lang.Program, input []int, r *rand.Rand) {
		all := compiled(t, p)
		c, less := lean(t, p)
		if less != len(all.Ops)-len(c.Ops) || less != checks(all)-checks(c) || c.Vars != all.Vars {
			t.Fatalf("%+v: %s, of %s: %d", p, said(c), said(all), less)
		}
		if g, err := flow.Build(p); err == nil {
			if table, err := scan.Scan(g, nil); err == nil && less < shownBy(t, g, table) {
				text, _ := lang.Text(p)
				t.Fatalf("%s: %s %d", text, said(c), less)
			}
		}
		seen["left out"] += less
		seen["stay"] += checks(c)
		for range 4 {
			seen[sameEnd(t, p, c, input)]++
			input = maker{Rand: r}.numbers()
		}
	})
	for _, kind := range []string{"done", "stuck", "failed", "wrong", "left out", "stay"} {
		if seen[kind] < 150 {
			t.Error(seen)
		}
	}
}

// P1: also what is long, or stands deep, is soon compiled, made lean, and run.
func TestEndsSoon(t *testing.T) {
	started := time.Now()
	many := strings.Repeat
	for _, s := range []string{
		"var x;proc f(u){x=x" + many("+x", 320) + ";return u;}main{" + many("x=call f(x);", 4) + "}",
		"var x;main{while x<9" + many(" and x<9", 380) + "{}}",
		"var x;main{while x<9" + many(" or x==9", 300) + "{}}",
		"var x;main{" + many("while x<9{", 12) + many("}", 12) + "}",
		"var x;var y;array a[16];main{" + many("while x<9{if y>3{a[x]=y;y=y-x;}x=x+a[y];}", 20) + "}",
		"var x;array a[16];main{x=" + many("a[", 11) + "x" + many("]", 11) + ";x=" + many("x*(x+(", 5) + "x" + many("))", 5) + ";}",
		"var x;main{assume " + many("x<1 and x>0 or ", 100) + "x==3;" + many("x=x+1;", 90) + "}",
	} {
		p := read(t, s)
		c, _ := lean(t, p)
		if e, err := Run(c, nil, 100*api.MaxFuel); err != nil {
			t.Errorf("%.60s: %v %v", s, e.Kind, err)
		}
	}
	if d := time.Since(started); d > 20*time.Second {
		t.Error(d)
	}
}

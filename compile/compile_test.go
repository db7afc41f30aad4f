package compile

import (
	"fmt"
	"math/rand"
	"reflect"
	"slices"
	"strings"
	"sync"
	"testing"

	"raycone/api"
	"raycone/check"
	"raycone/lang"
)

// P201: what each statement becomes.
func TestCompile(t *testing.T) {
	for main, want := range map[string]string{
		"":                             "",
		"x=7;":                         "push 7, store 0",
		"y=x;":                         "load 0, store 1",
		"x=-y;":                        "load 1, neg, store 0",
		"x=x+1-y*2;":                   "load 0, push 1, add, small, load 1, push 2, mul, small, sub, small, store 0",
		"x=x/y%3;":                     "load 0, load 1, nonzero, div, push 3, nonzero, rem, store 0",
		"x=10-(y-1);":                  "push 10, load 1, push 1, sub, small, sub, small, store 0",
		"x=b[a[y]];":                   "load 1, within 3, get 0, within 1, get 1, store 0",
		"a[x]=y;":                      "load 0, within 3, load 1, put 0",
		"b[x/2]=a[0]+1;":               "load 0, push 2, nonzero, div, within 1, push 0, within 3, get 0, push 1, add, small, put 1",
		"read y;":                      "read, store 1",
		"assert x<y;":                  "load 0, load 1, lt, assert",
		"assume x<=y;":                 "load 0, load 1, le, assume",
		"assert x>y;":                  "load 1, load 0, lt, assert",
		"assert x>=y;":                 "load 1, load 0, le, assert",
		"assert x==y;":                 "load 0, load 1, eq, assert",
		"assert x!=y;":                 "load 0, load 1, ne, assert",
		"assert x<1 and y<2;":          "load 0, push 1, lt, assert, load 1, push 2, lt, assert",
		"assert true;":                 "",
		"assert false;":                "push 0, assert",
		"assume false;":                "push 0, assume",
		"assume x<1 or y<2;":           "load 0, push 1, lt, unless 5, jump 9, load 1, push 2, lt, assume",
		"if x<1{y=2;}":                 "load 0, push 1, lt, unless 6, push 2, store 1",
		"if x<1{y=2;}else{y=3;}":       "load 0, push 1, lt, unless 7, push 2, store 1, jump 9, push 3, store 1",
		"if x<1 and y<2 or x==3{y=2;}": "load 0, push 1, lt, unless 9, load 1, push 2, lt, unless 9, jump 13, load 0, push 3, eq, unless 15, push 2, store 1",
		"if false{y=2;}":               "push 0, unless 4, push 2, store 1",
		"if true{y=2;}":                "push 2, store 1",
		"while x<3{x=x+1;}":            "load 0, push 3, lt, unless 10, load 0, push 1, add, small, store 0, jump 0",
		"while true{}":                 "jump 0",
	} {
		p := read(t, "var x;var y;array a[3];array b[1];main{"+main+"}")
		c := compiled(t, p)
		if got := said(c); got != want {
			t.Errorf("%s: %s, want %s", main, got, want)
		}
		if c.Vars != 2 || !slices.Equal(c.Arrays, []int{3, 1}) {
			t.Error(c)
		}
	}
}

// P201: calls are laid out, with parameters behind the other variables.
func TestCompileCalls(t *testing.T) {
	p := read(t, "var x;proc f(u,v){u=u-v;return u*2;}main{x=call f(3,x);x=call f(1,2);}")
	c := compiled(t, p)
	want := "push 3, store 1, load 0, store 2, load 1, load 2, sub, small, store 1, load 1, push 2, mul, small, store 0, " +
		"push 1, store 1, push 2, store 2, load 1, load 2, sub, small, store 1, load 1, push 2, mul, small, store 0"
	if said(c) != want || c.Vars != 3 || len(c.Arrays) != 0 {
		t.Error(said(c), c.Vars)
	}
}

// signs and places of a program without calls, and where each is: what must be checked.
type uses struct{ signs, divisions, places int }

func (u *uses) term(e lang.Expr) {
	switch e.Op {
	case "+", "-", "*":
		u.signs++
	case "/", "%":
		u.divisions++
	case "at":
		u.places++
	}
	for _, part := range e.L {
		u.term(part)
	}
}

func (u *uses) block(l []lang.Stmt) {
	for _, s := range l {
		for _, e := range s.Args {
			u.term(e)
		}
		if s.Kind == "put" {
			u.places++
		}
		for _, row := range s.Cond {
			for _, test := range row {
				u.term(test.A)
				u.term(test.B)
			}
		}
		u.block(s.Body)
		u.block(s.Else)
	}
}

// checksOf code: those that stand where they must.
func checksOf(c Code) (u uses, all int) {
	for i, o := range c.Ops {
		next, last := "", ""
		if i+1 < len(c.Ops) {
			next = c.Ops[i+1].Name
		}
		if i > 0 {
			last = c.Ops[i-1].Name
		}
		switch o.Name {
		case "small", "nonzero", "within":
			all++
		}
		switch {
		case strings.Contains("add sub mul", o.Name) && next == "small":
			u.signs++
		case strings.Contains("div rem", o.Name) && last == "nonzero":
			u.divisions++
		case o.Name == "get" && last == "within" && c.Ops[i-1].N == c.Arrays[o.N]:
			u.places++
		case o.Name == "put":
			u.places++ // The number stands between: how a run goes wrong tells more.
		}
	}
	return u, all
}

// P201: the checks that are asked for, where they are asked for, and no others.
func TestChecksStandWhereTheyMust(t *testing.T) {
	programs(t, 201, 3000, func(p lang.Program, _ []int, _ *rand.Rand) {
		laid, _ := check.Inline(p)
		var want uses
		want.block(laid.Main)
		c := compiled(t, p)
		got, all := checksOf(c)
		if got != want || all != want.signs+want.divisions+want.places {
			t.Fatalf("%+v: %v %d, want %v", p, got, all, want)
		}
	})
}

// P204: compiled code ends as the machine does, and goes wrong by checks alone.
func TestCompiledEndsSo(t *testing.T) {
	seen := map[string]int{}
	programs(t, 204, 8000, func(p lang.Program, input []int, _ *rand.Rand) {
		seen[sameEnd(t, p, compiled(t, p), input)]++
	})
	for _, kind := range []string{"done", "stuck", "failed", "wrong"} {
		if seen[kind] < 150 {
			t.Error(seen)
		}
	}
}

// P204: ends that chance seldom meets.
func TestCompiledEnds(t *testing.T) {
	for main, kind := range map[string]string{
		"x=1099511627776;x=x+1;":                             "wrong",
		"x=1099511627776;x=x*1+0;":                           "done",
		"x=1099511627776;x=-x-1;":                            "wrong",
		"x=1099511627776;x=x*x;":                             "wrong",
		"x=1099511627776;x=-x*x;":                            "wrong",
		"x=1099511627776;x=x*x*0;":                           "wrong",
		"x=1099511627776;x=x-x+x;":                           "done",
		"y=4;a[y]=1;":                                        "wrong",
		"y=3;a[y]=1;":                                        "done",
		"x=1;a[x]=a[a[x]-1];":                                "wrong",
		"x=3;y=10/(x-3);":                                    "wrong",
		"x=3;y=10%(x-3);":                                    "wrong",
		"x=1;a[4]=x/0;y=2;":                                  "wrong",
		"if x==0 or 1/x==1{y=1;}":                            "done",
		"if x!=0 and 1/x==1{y=1;}else{y=2;}":                 "done",
		"if 1/x==1 or x==0{y=1;}":                            "wrong",
		"assert x==1 and 1/x==1;":                            "failed",
		"assume x==1 and 1/x==1;":                            "stuck",
		"assert x==0 or 1/x==1;assert x==1 or x>9;":          "failed",
		"assert x>9 or x==0;assume false;":                   "stuck",
		"assert true or x==1;assume true;":                   "done",
		"while x<4{a[x]=x;x=x+1;}assert a[3]==3 and x==4;":   "done",
		"while x<5{a[x]=x;x=x+1;}":                           "wrong",
		"while x>9 or x<3{if x==1{x=x+2;}else{x=x+1;}}":      "done",
		"while x<3{y=0;while y<2{y=y+1;}x=x+1;}assert y==2;": "done",
		"read x;read y;assert x==5 and y==6;read x;":         "wrong",
		"read x;if x>=5 and x<=5{assert x>5;}":               "failed",
		"if true{if false{x=1;}else{x=2;}}else{x=3;}":        "done",
	} {
		p := read(t, "var x;var y;array a[4];main{"+main+"}")
		lean, _, err := Lean(p)
		if err != nil {
			t.Fatal(err)
		}
		for _, c := range []Code{compiled(t, p), lean} {
			if got := sameEnd(t, p, c, []int{5, 6}); got != kind {
				t.Errorf("%s: %s, want %s", main, got, kind)
			}
		}
	}
}

// P204: what never ends is tired.
func TestCompiledIsTired(t *testing.T) {
	for _, main := range []string{"while true{}", "while x==0{y=1-y;}", "while x<9{if x<5{x=x+1;}else{x=0;}}"} {
		p := read(t, "var x;var y;main{"+main+"}")
		lean, _, _ := Lean(p)
		for _, c := range []Code{compiled(t, p), lean} {
			if e, err := Run(c, nil, 100*api.MaxFuel); e.Kind != "tired" || e.Steps != 2000000 || err != nil {
				t.Error(main, e, err)
			}
		}
	}
}

// P201, P203: check.Inline's errors, then that of too many ops; just 4000 are not too many.
func TestErrors(t *testing.T) {
	many := strings.Repeat
	sum := func(n int) string { return "x=x" + many("+x", n) + ";" } // 2 ops, and 3 for each
	proc := func(body string, calls int, more string) string {
		return "var x;proc f(u){" + body + "return u;}main{" + many("x=call f(x);", calls) + more + "}"
	}
	number := []lang.Expr{{Op: "num", N: 1}}
	for i, c := range []struct {
		p    lang.Program
		want error
		many int
	}{
		{read(t, proc(sum(320), 4, "x=1;"+sum(44))), nil, 4000},
		{read(t, proc(sum(320), 4, sum(45))), api.ErrBound, 0},
		{read(t, proc(sum(320), 4, sum(600))), api.ErrBound, 0},
		{read(t, proc("", 200, "")), nil, 800},
		{read(t, proc("", 201, "")), api.ErrBound, 0},
		{read(t, proc(sum(320), 4, "")), nil, 4 * (962 + 4)},
		{read(t, proc(sum(320), 5, "")), api.ErrBound, 0},
		{read(t, proc(sum(600), 70, "")), api.ErrBound, 0},
		{lang.Program{Main: []lang.Stmt{{Kind: "skip"}}}, api.ErrShape, 0},
		{lang.Program{Main: []lang.Stmt{{Kind: "set", Name: "x"}}}, api.ErrShape, 0},
		{lang.Program{Main: []lang.Stmt{{Kind: "set", Name: "x", Args: number}}}, api.ErrName, 0},
		{read(t, "var x;main{y=1;"+sum(900)+"}"), api.ErrName, 0},
		{read(t, "var x;proc f(u){return u;}main{x=call f();"+sum(900)+"}"), api.ErrShape, 0},
		{read(t, "array a[17];main{}"), api.ErrBound, 0},
		{lang.Program{}, nil, 0},
	} {
		got, err := Compile(c.p)
		if err != c.want || len(got.Ops) != c.many || err != nil && !reflect.DeepEqual(got, Code{}) {
			t.Error(i, len(got.Ops), err, c.want)
		}
		lean, less, err := Lean(c.p)
		if err != c.want || err == nil && len(lean.Ops)+less != c.many || err != nil && (less != 0 || !reflect.DeepEqual(lean, Code{})) {
			t.Error(i, "Lean", len(lean.Ops), less, err, c.want)
		}
	}
}

// P4: programs and code are only read, and what is answered is new memory.
func TestMemory(t *testing.T) {
	p := read(t, "var x;array a[2];array b[3];main{read x;a[x]=x+1;while x<9{x=x+1;}}")
	before := fmt.Sprintf("%+v", p)
	first := compiled(t, p)
	lean, _, _ := Lean(p)
	for _, c := range []Code{first, lean} {
		want := fmt.Sprint(c)
		input := []int{1, 2}
		e, err := Run(c, input, 100)
		if err != nil || e.Kind != "done" || fmt.Sprint(c) != want || !slices.Equal(input, []int{1, 2}) {
			t.Fatal(e, err)
		}
		lists := append(slices.Clone(e.Arrays), e.Vars, c.Arrays)
		for i, l := range lists {
			for j := range l[:cap(l)] {
				l[:cap(l)][j] = 100*i + j
			}
		}
		for i, l := range lists {
			if l[0] != 100*i {
				t.Error(lists)
			}
		}
		for i := range c.Ops {
			c.Ops[i] = Op{"x", 1}
		}
	}
	if fmt.Sprintf("%+v", p) != before {
		t.Error(p)
	}
	if again := compiled(t, p); fmt.Sprint(again.Arrays) != "[2 3]" || !strings.HasPrefix(said(again), "read, store 0") {
		t.Error(again)
	}
}

// P3: nothing behind the lengths of lists is read, or written; nil and empty lists are one thing.
func TestBehindLengths(t *testing.T) {
	code := ops("push 1, store 0, push 2, store 0")
	sizes, input := []int{2, 99}, []int{3, 1 << 50}
	if got := end(Code{Vars: 1, Arrays: sizes[:1], Ops: code[:2]}, input[:1], 9); got != "{done 2 [1] [[0 0]]}" {
		t.Error(got)
	}
	if got := end(Code{Vars: 1, Ops: []Op{{"read", 0}, {"store", 0}}}, input[:0], 9); got != "{wrong 1 [0] []}" {
		t.Error(got)
	}
	if fmt.Sprint(code, sizes, input) != "[{push 1} {store 0} {push 2} {store 0}] [2 99] [3 1125899906842624]" {
		t.Error(code, sizes, input)
	}
	if a, b := end(Code{Arrays: []int{}, Ops: []Op{}}, []int{}, 1), end(Code{}, nil, 1); a != b || a != "{done 0 [] []}" {
		t.Error(a, b)
	}
}

// P2: the same is answered, also side by side.
func TestSideBySide(t *testing.T) {
	var all []lang.Program
	programs(t, 2, 40, func(p lang.Program, _ []int, _ *rand.Rand) { all = append(all, p) })
	tell := func(p lang.Program) string {
		c, err := Compile(p)
		lean, less, bad := Lean(p)
		return fmt.Sprint(c, err, lean, less, bad, end(lean, []int{1, 2}, 500))
	}
	var want []string
	for _, p := range all {
		want = append(want, tell(p))
	}
	var wait sync.WaitGroup
	for range 4 {
		wait.Go(func() {
			for i, p := range all {
				if got := tell(p); got != want[i] {
					t.Errorf("%s, want %s", got, want[i])
				}
			}
		})
	}
	wait.Wait()
}

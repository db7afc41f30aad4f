package check

import (
	"fmt"
	"slices"
	"strings"
	"testing"

	"raycone/api"
	"raycone/lang"
)

// read a program of a test.
func read(t *testing.T, s string) lang.Program {
	t.Helper()
	p, err := lang.Read(s)
	if err != nil {
		t.Fatalf("%q: %v", s, err)
	}
	return p
}

// text of a program of a test.
func text(t *testing.T, p lang.Program) string {
	t.Helper()
	s, err := lang.Text(p)
	if err != nil {
		t.Fatalf("%.300s: %v", told(p), err)
	}
	return s
}

// told of a program: all its fields.
func told(p lang.Program) string { return fmt.Sprintf("%+v", p) }

// answers holds against each other what the three calls say of a program that is not right: the same error, bare, and nothing else.
func answers(t *testing.T, p lang.Program, want error) {
	t.Helper()
	if err := Check(p); err != want {
		t.Errorf("%.300s: %v, want %v", told(p), err, want)
	}
	q, inlined := Inline(p)
	l, used := Used(p)
	switch {
	case want == nil && (used != nil || inlined != nil && inlined != api.ErrBound):
		t.Errorf("%.300s: %v, %v", told(p), inlined, used)
	case want != nil && (inlined != want || used != want || told(q) != told(lang.Program{}) || len(l) > 0):
		t.Errorf("%.300s: %v %v, %v %v, want %v", told(p), q, inlined, l, used, want)
	}
}

// declared: so many names of a kind, none of them twice.
func declared(form, from string, many int) string {
	var b strings.Builder
	for i := range many {
		fmt.Fprintf(&b, form, from+string(rune('a'+i/26))+string(rune('a'+i%26)))
	}
	return b.String()
}

// P110: what has no text.
func TestCheckShape(t *testing.T) {
	x := lang.Expr{Op: "var", Name: "x"}
	deep := x
	for range 12 {
		deep = lang.Expr{Op: "neg", L: []lang.Expr{deep}}
	}
	for _, s := range []lang.Stmt{
		{}, {Kind: "let"}, {Kind: "read"}, {Kind: "read", Name: "X"}, {Kind: "read", Name: "if"}, {Kind: "read", Name: "abcdefghi"}, {Kind: "read", Name: "x", Proc: "f"},
		{Kind: "set", Name: "x"}, {Kind: "set", Name: "x", Args: []lang.Expr{x, x}}, {Kind: "set", Name: "x", Args: []lang.Expr{{}}}, {Kind: "set", Name: "x", Args: []lang.Expr{deep}},
		{Kind: "set", Name: "x", Args: []lang.Expr{{Op: "num", N: -1}}}, {Kind: "set", Name: "x", Args: []lang.Expr{{Op: "num", N: api.MaxValue + 1}}}, {Kind: "set", Name: "x", Args: []lang.Expr{{Op: "+", L: []lang.Expr{x}}}},
		{Kind: "put", Name: "a", Args: []lang.Expr{x}}, {Kind: "call", Name: "x"}, {Kind: "call", Proc: "f"}, {Kind: "assert", Cond: lang.Cond{{{}}}}, {Kind: "assert", Cond: lang.Cond{{{A: x, Rel: "=", B: x}}}},
		{Kind: "while", Else: []lang.Stmt{{Kind: "read", Name: "x"}}}, {Kind: "if", Body: []lang.Stmt{{}}}, {Kind: "if", Else: []lang.Stmt{{}}},
	} {
		right := []lang.Stmt{{Kind: "read", Name: "x"}, s}
		answers(t, lang.Program{Vars: []string{"x"}, Main: right}, api.ErrShape)
		answers(t, lang.Program{Vars: []string{"x"}, Procs: []lang.Proc{{Name: "f", Body: right, Return: x}}}, api.ErrShape)
		answers(t, lang.Program{Vars: []string{"x"}, Main: []lang.Stmt{{Kind: "while", Body: right}}}, api.ErrShape)
	}
	for _, p := range []lang.Program{
		{Vars: []string{""}}, {Vars: []string{"x", "main"}}, {Arrays: []lang.Array{{Size: 1}}}, {Arrays: []lang.Array{{Name: "a", Size: -1}}}, {Arrays: []lang.Array{{Name: "a", Size: api.MaxValue + 1}}},
		{Procs: []lang.Proc{{}}}, {Procs: []lang.Proc{{Name: "f"}}}, {Procs: []lang.Proc{{Return: x}}}, {Vars: []string{"x"}, Procs: []lang.Proc{{Name: "f", Params: []string{"?"}, Return: x}}},
	} {
		answers(t, p, api.ErrShape)
	}
	answers(t, lang.Program{}, nil)
	answers(t, lang.Program{Vars: []string{}, Arrays: []lang.Array{}, Procs: []lang.Proc{}, Main: []lang.Stmt{}}, nil)
}

// P110: a program whose text would have more than MaxText bytes has none, also if it was read from a shorter one, and whatever else is wrong.
func TestCheckLong(t *testing.T) {
	many := strings.Repeat
	for _, s := range []string{
		"var x;main{" + many("x=1;", 450) + "}",
		"var x;main{" + many("x=1;", 995) + "}",
		"var x;proc f(){return 1;}main{x=call f();" + many("x=1;", 500) + "}",
		"var x;proc f(){" + many("x=1;", 500) + "return 1;}main{}",
		"var x;proc f(){return x" + many("+x", 1000) + ";}main{x=call f();}",
		"var x;main{x=1" + many("+1", 1900) + ";}",
		"var x;main{assert x<1" + many(" or x<1", 500) + ";}",
		"var x;main{" + many("if x<1{x=1;}else{x=x+1;}", 133) + "}",
		"var x;main{" + within(many("x=x+1;", 380), 11) + "}",
		declared("var %s;", "x", 450) + "main{}",
		declared("proc %s(){return 1;}", "f", 160) + "main{}",
		"array a[17];main{" + many("x=1;", 450) + "}",
		"var x;var x;main{" + many("x=1;", 450) + "}",
		"var x;main{" + many("y=1;", 450) + "}",
		"var x;proc f(){return 1;}main{" + many("x=call f(1);", 300) + "}",
	} {
		p := read(t, s)
		answers(t, p, api.ErrShape)
		p.Vars = append(p.Vars, "x")
		p.Main = append(p.Main, lang.Stmt{Kind: "read", Name: "y"})
		answers(t, p, api.ErrShape)
	}
	x := lang.Stmt{Kind: "read", Name: "x"}
	answers(t, lang.Program{Vars: []string{"x"}, Main: slices.Repeat([]lang.Stmt{x}, 100_000)}, api.ErrShape)
}

// P110: a text of just MaxText bytes is one.
func TestCheckLongest(t *testing.T) {
	p := read(t, "var xxxxxx;main{"+strings.Repeat("xxxxxx=1;", 283)+"xxxxxx=1234;}")
	if n := len(text(t, p)); n != api.MaxText {
		t.Fatal(n)
	}
	answers(t, p, nil)
	if q, err := Inline(p); told(q) != told(p) || err != nil {
		t.Errorf("%.300s %v", told(q), err)
	}
	p.Main[0].Args[0].N = 10
	answers(t, p, api.ErrShape)
}

// P110: how much a program may have.
func TestCheckBound(t *testing.T) {
	for s, want := range map[string]error{
		declared("var %s;", "x", 12) + "main{}":                                                                                         nil,
		declared("var %s;", "x", 13) + "main{}":                                                                                         api.ErrBound,
		declared("array %s[1];", "x", 12) + "main{}":                                                                                    nil,
		declared("array %s[1];", "x", 13) + "main{}":                                                                                    api.ErrBound,
		declared("var %s;", "x", 6) + declared("array %s[1];", "y", 6) + "main{}":                                                       nil,
		declared("var %s;", "x", 6) + declared("array %s[1];", "y", 7) + "main{}":                                                       api.ErrBound,
		"proc f(" + declared("%s,", "x", 11) + "z){return 1;}main{}":                                                                    nil,
		"proc f(" + declared("%s,", "x", 12) + "z){return 1;}main{}":                                                                    api.ErrBound,
		"var x;array a[1];proc f(" + declared("%s,", "x", 4) + "z){return 1;}proc g(" + declared("%s,", "y", 4) + "y){return 1;}main{}": nil,
		"var x;array a[1];proc f(" + declared("%s,", "x", 5) + "z){return 1;}proc g(" + declared("%s,", "y", 4) + "y){return 1;}main{}": api.ErrBound,
		declared("proc %s(){return 1;}", "f", 6) + "main{}":                                                                             nil,
		declared("proc %s(){return 1;}", "f", 7) + "main{}":                                                                             api.ErrBound,
		declared("var %s;", "x", 12) + declared("proc %s(){return 1;}", "f", 6) + "main{}":                                              nil,
		"array a[1];main{}":                         nil,
		"array a[16];main{}":                        nil,
		"array a[0];main{}":                         api.ErrBound,
		"array a[17];main{}":                        api.ErrBound,
		"array a[1099511627776];main{}":             api.ErrBound,
		"array a[1];array b[16];array c[17];main{}": api.ErrBound,
	} {
		answers(t, read(t, s), want)
	}
}

// P110: each name is given once.
func TestCheckTwins(t *testing.T) {
	for s, want := range map[string]error{
		"var x;var y;array a[1];proc f(z){return 1;}proc g(u,v){return 1;}main{}": nil,
		"var x;var y;var x;main{}":                                        api.ErrName,
		"var x;array x[1];main{}":                                         api.ErrName,
		"array a[1];array b[2];array a[3];main{}":                         api.ErrName,
		"var x;proc x(){return 1;}main{}":                                 api.ErrName,
		"array x[1];proc x(){return 1;}main{}":                            api.ErrName,
		"var x;proc f(x){return 1;}main{}":                                api.ErrName,
		"array x[1];proc f(x){return 1;}main{}":                           api.ErrName,
		"proc f(x,y,x){return 1;}main{}":                                  api.ErrName,
		"proc f(x){return 1;}proc g(x){return 1;}main{}":                  api.ErrName,
		"proc f(f){return 1;}main{}":                                      api.ErrName,
		"proc f(g){return 1;}proc g(){return 1;}main{}":                   api.ErrName,
		"proc f(){return 1;}proc g(f){return 1;}main{}":                   api.ErrName,
		"proc f(){return 1;}proc g(){return 1;}proc f(){return 1;}main{}": api.ErrName,
	} {
		answers(t, read(t, s), want)
	}
}

// placed: programs with x, y (variables), a (an array), f, g, h (procedures, with the parameters u, v and w) in which a statement stands in f, g, h and main.
func placed(s string) [4]string {
	var l [4]string
	for i := range l {
		at := [4]string{}
		at[i] = s
		l[i] = "var x;var y;array a[3];proc f(u){" + at[0] + "return u;}proc g(v){" + at[1] + "return v;}proc h(w){" + at[2] + "return w;}main{" + at[3] + "}"
	}
	return l
}

// statementsWith a term, at all places where one can stand.
func statementsWith(e string) []string {
	var l []string
	for _, e := range []string{e, "-" + e, "1+" + e, e + "*x", "a[" + e + "]", "x-(y%(" + e + "/2))"} {
		for _, form := range []string{"x=%s;", "a[%s]=1;", "a[0]=%s;", "x=call f(%s);", "assert %s<1;", "assume true or 1<2 and 1<%s;", "if %s<1{}", "while 1<%s{}"} {
			s := fmt.Sprintf(form, e)
			l = append(l, s, "if false{"+s+"}", "if false{}else{x=1;"+s+"}", "while true{read x;while true{"+s+"}}")
		}
	}
	return l
}

// P110: names are used as what they stand for: `v` marks the parts (f, g, h and main) where they can be.
func TestCheckUses(t *testing.T) {
	see := func(s, where string) {
		t.Helper()
		for i, s := range placed(s) {
			want := error(nil)
			if where[i] != 'v' {
				want = api.ErrName
			}
			answers(t, read(t, s), want)
		}
	}
	for name, where := range map[string]string{"x": "vvvv", "y": "vvvv", "u": "v---", "v": "-v--", "w": "--v-", "a": "----", "f": "----", "g": "----", "h": "----", "z": "----", "set": "----"} {
		see(name+"=1;", where)
		see("read "+name+";", where)
		see("if true{}else{if true{read "+name+";}}", where)
		see(name+"=x;x="+name+";", where)
		for _, s := range statementsWith(name) {
			if strings.Contains(s, "call") {
				// f is not ahead of itself.
				see(s, "-"+where[1:])
			} else {
				see(s, where)
			}
		}
	}
	for _, name := range strings.Fields("x y u v w f g h z") {
		see(name+"[0]=1;", "----")
		for _, s := range statementsWith(name + "[1]") {
			see(s, "----")
		}
	}
	see("a[a[a[x]]]=a[1];", "vvvv")
	see("x=call f(1);", "-vvv")
	see("x=call g(1);", "--vv")
	see("x=call h(1);", "---v")
	see("while true{if true{}else{x=call g(1);}}", "--vv")
	see("u=call f(1);", "----")
	see("v=call f(1);", "-v--")
	see("a=call f(1);", "----")
	see("z=call f(1);", "----")
	for _, name := range strings.Fields("x a u v w z") {
		see("x=call "+name+"(1);", "----")
	}
	for s, want := range map[string]error{
		"proc f(){return z;}main{}":                                     api.ErrName,
		"var z;proc f(){return z;}main{}":                               nil,
		"array z[1];proc f(){return z;}main{}":                          api.ErrName,
		"array z[1];proc f(){return z[0];}main{}":                       nil,
		"proc f(z){return z;}main{}":                                    nil,
		"proc f(z){return 1;}proc g(){return z;}main{}":                 api.ErrName,
		"proc f(z){return 1;}proc g(){return 1;}main{}":                 nil,
		"proc f(){return f;}main{}":                                     api.ErrName,
		"var x;proc f(){x=call g();return 1;}proc g(){return 1;}main{}": api.ErrName,
		"var x;proc f(){return 1;}proc g(){x=call f();return 1;}main{}": nil,
	} {
		answers(t, read(t, s), want)
	}
}

// P110: a call has as many arguments as its procedure has parameters.
func TestCheckArguments(t *testing.T) {
	for many := range 4 {
		params := strings.Join([]string{"a", "b", "c"}[:min(many, 3)], ",")
		for given := range 6 {
			args := strings.Join(slices.Repeat([]string{"1"}, given), ",")
			want := api.ErrShape
			if given == many {
				want = nil
			}
			for _, form := range []string{
				"var x;proc f(%s){return 1;}main{x=call f(%s);}",
				"var x;proc f(%s){return 1;}main{while true{if true{}else{x=call f(%s);}}}",
				"var x;proc f(%s){return 1;}proc g(){x=call f(%s);return 1;}main{}",
				"var x;proc f(%s){return 1;}proc g(y,z){return 1;}main{x=call g(1,1);x=call f(%s);x=call g(1,1);}",
			} {
				answers(t, read(t, fmt.Sprintf(form, params, args)), want)
			}
		}
	}
}

// P3, P110: of several faults the one is told that is named first, wherever they stand.
func TestCheckFirst(t *testing.T) {
	type fault struct {
		vars, arrays, procs, main string
		err                       error
	}
	faults := []fault{
		{arrays: "array z[0];", err: api.ErrBound},
		{vars: "var x;", err: api.ErrName},
		{procs: "proc k(){return k;}", err: api.ErrName},
		{main: "unknown=1;", err: api.ErrName},
		{main: "x=call f();", err: api.ErrShape},
		{procs: "proc l(){x=call f(1,2);return 1;}", err: api.ErrShape},
	}
	both := func(a, b fault) lang.Program {
		return read(t, "var x;"+a.vars+b.vars+"array y[1];"+a.arrays+b.arrays+"proc f(q){return 1;}"+a.procs+b.procs+"main{"+a.main+b.main+"}")
	}
	answers(t, both(fault{}, fault{}), nil)
	for i, a := range faults {
		answers(t, both(a, fault{}), a.err)
		for _, b := range faults[i+1:] {
			answers(t, both(a, b), a.err)
			answers(t, both(b, a), a.err)
			p := both(a, b)
			p.Main = append(p.Main, lang.Stmt{Kind: "?"})
			answers(t, p, api.ErrShape)
		}
	}
}

package lang

import (
	"errors"
	"fmt"
	"strings"
	"testing"

	"raycone/api"
)

func num(n int) Expr { return Expr{Op: "num", N: n} }

func named(s string) Expr { return Expr{Op: "var", Name: s} }

func at(s string, e Expr) Expr { return Expr{Op: "at", Name: s, L: []Expr{e}} }

func op(s string, l ...Expr) Expr { return Expr{Op: s, L: l} }

func set(s string, e Expr) Stmt { return Stmt{Kind: "set", Name: s, Args: []Expr{e}} }

func less(a, b Expr) Test { return Test{A: a, Rel: "<", B: b} }

func mainOf(l ...Stmt) Program { return Program{Main: l} }

// told of a program: all its fields.
func told(p Program) string { return fmt.Sprintf("%+v", p) }

// P100, P101: what stands in which field.
func TestRead(t *testing.T) {
	x, y, z := named("x"), named("y"), named("z")
	for s, want := range map[string]Program{
		"main{}":              {},
		" \n main \n{ \n}\n ": {},
		"var x;main{}":        {Vars: []string{"x"}},
		"var y;var x;var y;array y[16];array x[0];array z[1099511627776];main{}": {Vars: []string{"y", "x", "y"}, Arrays: []Array{{"y", 16}, {"x", 0}, {"z", 1 << 40}}},
		"proc f(){return 1;}proc g(x){x=1;read y;return x;}proc f(x,y,x){return-x;}main{}": {Procs: []Proc{
			{Name: "f", Return: num(1)},
			{Name: "g", Params: []string{"x"}, Body: []Stmt{set("x", num(1)), {Kind: "read", Name: "y"}}, Return: x},
			{Name: "f", Params: []string{"x", "y", "x"}, Return: op("neg", x)},
		}},
		"main{x=1;}":                        mainOf(set("x", num(1))),
		"main{x[y]=z;}":                     mainOf(Stmt{Kind: "put", Name: "x", Args: []Expr{y, z}}),
		"main{x=call f();}":                 mainOf(Stmt{Kind: "call", Name: "x", Proc: "f"}),
		"main{x=call f(1);}":                mainOf(Stmt{Kind: "call", Name: "x", Proc: "f", Args: []Expr{num(1)}}),
		"main{x=call f(1,y+z,x);}":          mainOf(Stmt{Kind: "call", Name: "x", Proc: "f", Args: []Expr{num(1), op("+", y, z), x}}),
		"main{read x;read x;}":              mainOf(Stmt{Kind: "read", Name: "x"}, Stmt{Kind: "read", Name: "x"}),
		"main{assert false;}":               mainOf(Stmt{Kind: "assert"}),
		"main{assume true;}":                mainOf(Stmt{Kind: "assume", Cond: Cond{{}}}),
		"main{assume true or true or x<1;}": mainOf(Stmt{Kind: "assume", Cond: Cond{{}, {}, {less(x, num(1))}}}),
		"main{assert x<y or y<z and z<x or true;}": mainOf(Stmt{Kind: "assert", Cond: Cond{
			{less(x, y)}, {less(y, z), less(z, x)}, {},
		}}),
		"main{assert x<y and x<=y and x==y and x!=y and x>y and x>=y;}": mainOf(Stmt{Kind: "assert", Cond: Cond{{
			{x, "<", y}, {x, "<=", y}, {x, "==", y}, {x, "!=", y}, {x, ">", y}, {x, ">=", y},
		}}}),
		"main{if x<1{}}":             mainOf(Stmt{Kind: "if", Cond: Cond{{less(x, num(1))}}}),
		"main{if false{}else{}}":     mainOf(Stmt{Kind: "if"}),
		"main{if false{x=1;}else{}}": mainOf(Stmt{Kind: "if", Body: []Stmt{set("x", num(1))}}),
		"main{if false{}else{x=1;}}": mainOf(Stmt{Kind: "if", Else: []Stmt{set("x", num(1))}}),
		"main{if false{x=1;x=2;}else{x=3;x=4;}x=5;}": mainOf(Stmt{Kind: "if",
			Body: []Stmt{set("x", num(1)), set("x", num(2))}, Else: []Stmt{set("x", num(3)), set("x", num(4))}}, set("x", num(5))),
		"main{if false{if true{}else{read x;}}}": mainOf(Stmt{Kind: "if", Body: []Stmt{{Kind: "if", Cond: Cond{{}}, Else: []Stmt{{Kind: "read", Name: "x"}}}}}),
		"main{while true{while false{}read x;}}": mainOf(Stmt{Kind: "while", Cond: Cond{{}}, Body: []Stmt{{Kind: "while"}, {Kind: "read", Name: "x"}}}),
	} {
		if p, err := Read(s); told(p) != told(want) || err != nil {
			t.Errorf("%q: %v %v, want %v", s, told(p), err, told(want))
		}
	}
}

// P101: sums and products group from the left, and products closer; what is negated is one part.
func TestReadTerms(t *testing.T) {
	a, b, c, d := named("a"), named("b"), named("c"), named("d")
	for s, want := range map[string]Expr{
		"0":             num(0),
		"1099511627776": num(api.MaxValue),
		"a":             a,
		"(((a)))":       a,
		"a[b]":          at("a", b),
		"a[(b)]":        at("a", b),
		"a[b[c]+1]":     at("a", op("+", at("b", c), num(1))),
		"-1":            op("neg", num(1)),
		"--a":           op("neg", op("neg", a)),
		"-a[b]":         op("neg", at("a", b)),
		"a+b-c+d":       op("+", op("-", op("+", a, b), c), d),
		"a-(b-(c-d))":   op("-", a, op("-", b, op("-", c, d))),
		"a*b/c%d":       op("%", op("/", op("*", a, b), c), d),
		"a%(b*c)/d":     op("/", op("%", a, op("*", b, c)), d),
		"a+b*c-d":       op("-", op("+", a, op("*", b, c)), d),
		"a*b+c*d":       op("+", op("*", a, b), op("*", c, d)),
		"(a+b)*(c-d)":   op("*", op("+", a, b), op("-", c, d)),
		"-a*b":          op("*", op("neg", a), b),
		"-(a*b)":        op("neg", op("*", a, b)),
		"-a+b":          op("+", op("neg", a), b),
		"a--b":          op("-", a, op("neg", b)),
		"a---b":         op("-", a, op("neg", op("neg", b))),
		"a*-b*c":        op("*", op("*", a, op("neg", b)), c),
		"a/-b--c":       op("-", op("/", a, op("neg", b)), op("neg", c)),
	} {
		for form, p := range map[string]Program{
			"main{x=%s;}":                mainOf(set("x", want)),
			"main{x[%s]=1;}":             mainOf(Stmt{Kind: "put", Name: "x", Args: []Expr{want, num(1)}}),
			"main{x[1]=%s;}":             mainOf(Stmt{Kind: "put", Name: "x", Args: []Expr{num(1), want}}),
			"main{x=call f(1,%s);}":      mainOf(Stmt{Kind: "call", Name: "x", Proc: "f", Args: []Expr{num(1), want}}),
			"main{assert %s<1;}":         mainOf(Stmt{Kind: "assert", Cond: Cond{{less(want, num(1))}}}),
			"main{assume 1<%s;}":         mainOf(Stmt{Kind: "assume", Cond: Cond{{less(num(1), want)}}}),
			"proc f(){return %s;}main{}": {Procs: []Proc{{Name: "f", Return: want}}},
		} {
			s := fmt.Sprintf(form, s)
			if got, err := Read(s); told(got) != told(p) || err != nil {
				t.Errorf("%q: %v %v, want %v", s, told(got), err, told(p))
			}
		}
	}
}

// P101: blanks and bytes 10 must stand only where two names, or two numbers, would become one.
func TestReadBlanks(t *testing.T) {
	for tight, wide := range map[string]string{
		"main{if1<2{}}":                             "main { if 1 < 2 { } }",
		"main{if(1)<2{}else{read x;}}":              "main\n{\nif (1)\n< 2 { } else\n{ read\nx ; } }\n",
		"main{while1<2and3<4or-5<6{}}":              " main { while 1 < 2 and 3 < 4 or - 5 < 6 { } } ",
		"main{assert x<=-1;assume a[1]!=1or true;}": "main { assert x <= - 1 ; assume a [ 1 ] != 1 or true ; }",
		"proc f(){return1;}main{}":                  "\n\nproc\n\nf\n(\n)\n{\nreturn\n1\n;\n}\nmain\n{\n}\n\n",
		"main{x=call f(1,-y);}":                     "main { x = call f ( 1 , - y ) ; }",
		"var x;array y[2];main{y[x]=2;}":            "var\nx ;   array\ny [ 2 ] ; main { y [ x ] = 2 ; }",
	} {
		want, err := Read(wide)
		if err != nil {
			t.Errorf("%q: %v", wide, err)
		}
		if p, err := Read(tight); told(p) != told(want) || err != nil {
			t.Errorf("%q: %v %v, want %v", tight, told(p), err, told(want))
		}
	}
	for s, want := range map[string]Program{
		"main{x=callf;}": mainOf(set("x", named("callf"))),
		"main{ifx=ory;}": mainOf(set("ifx", named("ory"))),
		"var varx;array arrayx[1];main{readx=trues;}": {Vars: []string{"varx"}, Arrays: []Array{{"arrayx", 1}}, Main: []Stmt{set("readx", named("trues"))}},
	} {
		if p, err := Read(s); told(p) != told(want) || err != nil {
			t.Errorf("%q: %v %v, want %v", s, told(p), err, told(want))
		}
	}
}

// P101: which names there are, wherever one stands.
func TestReadNames(t *testing.T) {
	for _, form := range []string{
		"var ?;main{}", "array ?[1];main{}", "proc ?(){return 1;}main{}", "proc f(?){return 1;}main{}", "proc f(x,?){return 1;}main{}",
		"main{?=1;}", "main{?[1]=1;}", "main{x=call ?();}", "main{read ?;}", "main{x=1+?[1];}", "main{x=a[?[1]];}",
	} {
		for _, name := range []string{"a", "z", "abcdefgh", "zzzzzzzz", "i", "iff", "ifif", "mains", "returns", "ora", "fals", "num", "at", "neg", "set", "put"} {
			s := strings.Replace(form, "?", name, 1)
			p, err := Read(s)
			if err != nil || !strings.Contains(told(p), name) {
				t.Errorf("%q: %v %v", s, told(p), err)
			}
		}
		// With some of the words another statement begins, and of a number there are no places: what follows cannot stand there.
		other := func(name string) bool {
			return strings.HasPrefix(form, "main{?") || strings.HasPrefix(form, "main{x") && name == "1"
		}
		wrong := append(keywords(), "abcdefghi", "returnsxx", strings.Repeat("a", 300), "X", "1", "_", "\t", "\u00e4", "\xff", "\x00")
		for _, name := range wrong {
			s := strings.Replace(form, "?", name, 1)
			place := strings.Index(form, "?")
			_, err := Read(s)
			var f *api.Fault
			if !errors.As(err, &f) || f.Err != api.ErrText || f.At != place && (!other(name) || f.At != place+len(name)) {
				t.Errorf("%q: %v %+v, want %d", s, err, f, place)
			}
		}
	}
}

// P101: which numbers there are.
func TestReadNumbers(t *testing.T) {
	for _, s := range []string{"0", "1", "9", "10", "90", "1099511627776", "1000000000000"} {
		p, err := Read("array a[" + s + "];main{x=" + s + ";}")
		if err != nil || fmt.Sprint(p.Arrays[0].Size) != s || fmt.Sprint(p.Main[0].Args[0].N) != s {
			t.Error(s, p, err)
		}
	}
	for _, s := range []string{"00", "01", "007", "1099511627777", "1099511627780", "2000000000000", "9223372036854775807", "9223372036854775808", "18446744073709551616", "18446744073709551617", strings.Repeat("9", 300), strings.Repeat("0", 30)} {
		for form, want := range map[string]int{"array a[%s];main{}": 8, "main{x=%s;}": 7, "main{x = 1 + %s;}": 13} {
			_, err := Read(fmt.Sprintf(form, s))
			var f *api.Fault
			if !errors.As(err, &f) || f.At != want || f.Err != api.ErrText {
				t.Error(form, s, err, f)
			}
		}
	}
}

// P102: the first word that cannot stand there: `^` stands ahead of it here.
func TestReadFaults(t *testing.T) {
	for _, s := range []string{
		"^", "  \n^", "^x", "^mai", "^mainx{}", "^;", "^{}", "^\x00", "^\r", "^\tmain{}", "^\xff", "^M", "\n^!", "^=", "^==",
		"main^", "main ^", "main ^main", "main^(){}", "main{^", "main{ \n^", "main{}^}", "main{}^;", "main{} ^main{}", "main{}\n ^var x;", "main{}^?",
		"var^", "var ^;", "var ^1;", "var x^", "var x^,y;main{}", "var x^[1];main{}", "var x^=1;", "var x ^y;", "var x; ^x;", "var x;^", "var x;^;", "var x;\n^",
		"array^", "array a^", "array a^;", "array a[^", "array a[^]", "array a[^n];", "array a[^-1];", "array a[1^", "array a[1^+1];", "array a[1]^", "array a[1]^main{}", "array a[1];^var x;", "array a^(1);",
		"proc^", "proc f^", "proc f^{}", "proc f(^", "proc f(^,x){", "proc f(x^", "proc f(x,^)", "proc f(x ^y)", "proc f(^1)", "proc f(x)^", "proc f(x)^;", "proc f(){^", "proc f(){^}", "proc f(){return^", "proc f(){return ^;}", "proc f(){return x^}",
		"proc f(){return x;^", "proc f(){return x;^x=1;}", "proc f(){return x;^return x;}", "proc f(){return x;}^", "proc f(){return x;}^;", "proc f(){return x;}^var x;", "proc f(){return x;}^array x[1];", "proc f(){if true{^return x;}}", "proc f(){return ^true;}", "proc f(){return ^call f();}", "proc f(){return x^<1;}",
		"main{^return 1;}", "main{^main{}}", "main{^var x;}", "main{^proc f(){}}", "main{^else{}}", "main{^call f();}", "main{^1=x;}", "main{^{}}", "main{^;}", "main{^true;}", "main{^-x=1;}", "main{^(x)=1;}",
		"main{x^", "main{x^;}", "main{x^==1;}", "main{x= ^=1;}", "main{x^+1;}", "main{x^(1);}", "main{x ^y=1;}", "main{x=^", "main{x=^;}", "main{x=1^", "main{x=1^}", "main{x=1 ^2;}", "main{x=1^x;}", "main{x=x^1;}", "main{x=1^=2;}", "main{x=1^<2;}", "main{x=1^,2;}", "main{x=^true;}", "main{x=^read y;}",
		"main{x=1+^;}", "main{x=1+^+1;}", "main{x=^+1;}", "main{x=^*1;}", "main{x=1*^/1;}", "main{x=-^;}", "main{x=-^+1;}", "main{x=(^);}", "main{x=(1^;}", "main{x=(1^];}", "main{x=1^);}", "main{x=a[^];}", "main{x=a[1^;}", "main{x=a[1^);}", "main{x=a[1]^[1];}", "main{x=1^[1];}", "main{x=(a)^[1];}", "main{x=a^(1);}", "main{x=a[1^,2];}",
		"main{x[^]=1;}", "main{x[1^=1;}", "main{x[1]^;}", "main{x[1]^[1]=1;}", "main{x[1]=^call f();}", "main{x[1]^==1;}", "main{x[1]=^;}",
		"main{x=call^", "main{x=call ^1();}", "main{x=call f^;}", "main{x=call f^[1];}", "main{x=call f(^", "main{x=call f(^;", "main{x=call f(^,1);}", "main{x=call f(1^;}", "main{x=call f(1,^);}", "main{x=call f()^+1;}", "main{x=call f()^}", "main{x=call f(^call f());}", "main{x=call f(1^<2);}", "main{x=1+^call f();}", "main{x=(^call f());}",
		"main{read^", "main{read ^;}", "main{read ^1;}", "main{read x^[1];}", "main{read x^,y;}", "main{read x^}",
		"main{assert^", "main{assert^;}", "main{assert x^;}", "main{assert x^=1;}", "main{assert x<^;}", "main{assert x<1^<2;}", "main{assert x<1^", "main{assert x<1^}", "main{assert (x^<1);}", "main{assert x^!1;}", "main{assert x^! =1;}", "main{assert x< ^=1;}", "main{assert x<^<1;}", "main{assert x^= =1;}", "main{assert x==^=1;}", "main{assert x^=<1;}",
		"main{assert true ^and x<1;}", "main{assert x<1 and ^true;}", "main{assert x<1 and ^false;}", "main{assert x<1 or ^false;}", "main{assert false ^or x<1;}", "main{assert false ^and x<1;}", "main{assert x<1 or^;}", "main{assert x<1 and^;}", "main{assert ^or x<1;}", "main{assert x<1 and ^or x<1;}", "main{assert true^<1;}", "main{assert true or ^false;}", "main{assert x ^and y<1;}",
		"main{if^", "main{if^{}}", "main{if true^", "main{if true^;}", "main{if true ^x=1;}", "main{if true{^", "main{if true{}^", "main{if true{}else^", "main{if true{}else^;}", "main{if true{}else ^if true{}}", "main{if true{}else{}^else{}}", "main{if true{}^;}", "main{if x^{}}",
		"main{while^", "main{while^{}}", "main{while true^;}", "main{while true{}^else{}}", "main{while true{^else{}}}", "main{while true{^return 1;}}",
		"main{x=1;^?y=1;}", "main{^?", "main{x^} ?", "main{x=1 + ^# ;}", "main{x=1 ^\r\n;}", "main{x=1;^//\n}", "main{^X=1;}", "main{x^Y=1;}", "main{x^_y=1;}", "main{x=1^.5;}", "main{x=1^\u00a0;}", "main{x=^\u0663;}", "main{^\"x\"=1;}",
		"main{^abcdefghi=1;}", "main{x ^abcdefghi", "main{x=^abcdefghi;}", "main{x=a^01;}", "main{x ^01;}", "^vars x;", "var x;^mainmain{}",
	} {
		place := strings.Index(s, "^")
		text := s[:place] + s[place+1:]
		p, err := Read(text)
		var f *api.Fault
		if !errors.As(err, &f) || f.At != place || f.Err != api.ErrText || told(p) != told(Program{}) {
			t.Errorf("%q: %v %+v, want %d", text, err, f, place)
		}
	}
}

// P102: a text may be so long, and is not looked at if it is longer.
func TestReadLength(t *testing.T) {
	most := "main{" + strings.Repeat(" ", api.MaxText-6) + "}"
	if p, err := Read(most); err != nil || told(p) != told(Program{}) {
		t.Error(p, err)
	}
	for _, s := range []string{most + " ", "?" + most, strings.Repeat("(", 5000), strings.Repeat("-", 1<<20)} {
		if p, err := Read(s); err != api.ErrBound || told(p) != told(Program{}) {
			t.Error(len(s), p, err)
		}
	}
	// So much as fits, though its own text is longer.
	p, err := Read("main{" + strings.Repeat("x=1;", 998) + "}")
	if len(p.Main) != 998 || err != nil {
		t.Error(len(p.Main), err)
	}
}

// P102: how deep statements and terms may stand in each other: `^` stands ahead of the word that is too deep, if one is.
func TestReadDeep(t *testing.T) {
	many := strings.Repeat
	for _, s := range []string{
		"main{" + many("while true{", 12) + many("}", 12) + "}",
		"main{" + many("if true{", 11) + "x=1;read x;if false{}else{}" + many("}", 11) + "}",
		"main{" + many("if true{", 12) + "^x=1;",
		"main{" + many("if true{", 12) + "^x",
		"main{" + many("if true{", 12) + "^read",
		"main{" + many("if true{", 12) + "^if",
		"main{" + many("if true{", 12) + "}else{^assert?",
		"main{" + many("if true{}else{", 12) + "^assume",
		"main{" + many("while true{", 12) + "\n ^while true{",
		"main{" + many("while true{", 12) + many("}", 11) + "x=1;" + many("while true{", 11) + "^x",
		"proc f(){" + many("while true{", 12) + many("}", 12) + "return 1;}main{}",
		"proc f(){" + many("while true{", 12) + "^x=1;",
		"proc f(){return " + many("(", 11) + "1" + many(")", 11) + ";}main{}",
		"proc f(){return " + many("(", 11) + "^(",
		"main{x=" + many("-", 11) + "1;}",
		"main{x=" + many("-", 11) + "^-",
		"main{x=" + many("-", 11) + "1-1-" + many("-", 11) + "x*" + many("-", 11) + "1;}",
		"main{x=" + many("-", 11) + "1-" + many("-", 11) + "^-1;}",
		"main{x=" + many("-", 11) + "^(1);}",
		"main{x=" + many("-", 11) + "y^[1];}",
		"main{x=" + many("(", 11) + "y-1" + many(")", 11) + "-1;}",
		"main{x=" + many("(", 11) + "^-1",
		"main{x=" + many("(", 11) + "1-^-1",
		"main{x=" + many("(", 11) + "y^[",
		"main{x=" + many("(", 10) + "y[1]" + many(")", 10) + ";}",
		"main{x=" + many("-(", 5) + "-1" + many(")", 5) + ";}",
		"main{x=" + many("-(", 5) + "-y^[1]",
		"main{x=" + many("y[", 11) + "1" + many("]", 11) + "+" + many("y[", 11) + "1" + many("]", 11) + ";}",
		"main{x=" + many("y[", 11) + "y^[1]",
		"main{x=" + many("y[", 11) + "^-1",
		"main{x[" + many("y[", 11) + "1" + many("]", 11) + "]=" + many("-", 11) + "1;}",
		"main{x[" + many("-", 11) + "^-",
		"main{x[1]=" + many("-", 11) + "^-",
		"main{x=call f(" + many("(", 11) + "1" + many(")", 11) + "," + many("-", 11) + "1);}",
		"main{x=call f(" + many("(", 11) + "^(",
		"main{x=call f(1," + many("-", 11) + "^-",
		"main{if " + many("-", 11) + "1<" + many("-", 11) + "1 and " + many("-", 11) + "1<1{}}",
		"main{if " + many("-", 11) + "^-",
		"main{while 1<" + many("-", 11) + "^-",
		"main{assert 1<1 and " + many("-", 11) + "^-",
		"main{assume true or " + many("-", 11) + "^-",
		// Terms do not stand in statements.
		"main{" + many("while true{", 11) + "x=" + many("-", 11) + "1;" + many("}", 11) + "}",
		// What holds each other, but is not deeper.
		"main{x=" + many("1+", 500) + "1;}",
		"main{x=" + many("1-1*", 500) + "1;}",
		"main{x=" + many("-1-", 500) + "1;}",
		"main{" + many("if true{}else{}", 200) + "}",
	} {
		place := strings.Index(s, "^")
		p, err := Read(strings.Replace(s, "^", "", 1))
		var f *api.Fault
		switch {
		case place < 0 && err != nil:
			t.Errorf("%q: %v", s, err)
		case place >= 0 && (!errors.As(err, &f) || f.At != place || f.Err != api.ErrBound || told(p) != told(Program{})):
			t.Errorf("%q: %v %+v, want %d", s, err, f, place)
		}
	}
}

// P102: what is met first, from the left, is told.
func TestReadFirstFault(t *testing.T) {
	deep := strings.Repeat("-", 12)
	for s, want := range map[string]api.Fault{
		"main{x=?;y=" + deep + "1;}":                           {At: 7, Err: api.ErrText},
		"main{x=" + deep + "1;y=?;}":                           {At: 18, Err: api.ErrBound},
		"main{x=" + deep[:11] + "?-1;}":                        {At: 18, Err: api.ErrText},
		"main{x=" + deep[:11] + "--1?;}":                       {At: 18, Err: api.ErrBound},
		"main{x=" + deep[:11]:                                  {At: 18, Err: api.ErrText},
		"main{" + strings.Repeat("if true{", 12) + "return 1;": {At: 101, Err: api.ErrText},
		"main{" + strings.Repeat("if true{", 12) + "?":         {At: 101, Err: api.ErrText},
		"main{" + strings.Repeat("if true{", 12):               {At: 101, Err: api.ErrText},
		"main{" + strings.Repeat("if true{", 12) + "x?":        {At: 101, Err: api.ErrBound},
		"main{" + strings.Repeat("if true{", 12) + "abcdefghi": {At: 101, Err: api.ErrText},
	} {
		var f *api.Fault
		if _, err := Read(s); !errors.As(err, &f) || *f != want {
			t.Errorf("%q: %v %+v, want %+v", s, err, f, want)
		}
	}
}

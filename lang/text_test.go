package lang

import (
	"math"
	"slices"
	"strings"
	"testing"

	"raycone/api"
)

// P103: how a program is laid out.
func TestText(t *testing.T) {
	x, one := named("x"), num(1)
	for want, p := range map[string]Program{
		"main {\n}\n":                        {},
		"var x;\nvar abcdefgh;\nmain {\n}\n": {Vars: []string{"x", "abcdefgh"}},
		"var x;\narray x[0];\narray y[1099511627776];\nmain {\n}\n": {Vars: []string{"x"}, Arrays: []Array{{"x", 0}, {"y", api.MaxValue}}},
		"proc f() {\n  return 1;\n}\nproc g(x) {\n  x = 1;\n  return -x;\n}\nproc h(x, y, z) {\n  while true {\n    read x;\n  }\n  return x + 1;\n}\nmain {\n}\n": {Procs: []Proc{
			{Name: "f", Return: one},
			{Name: "g", Params: []string{"x"}, Body: []Stmt{set("x", one)}, Return: op("neg", x)},
			{Name: "h", Params: []string{"x", "y", "z"}, Body: []Stmt{{Kind: "while", Cond: Cond{{}}, Body: []Stmt{{Kind: "read", Name: "x"}}}}, Return: op("+", x, one)},
		}},
		"main {\n  x = 1;\n  y[x] = x[1];\n  z = call f();\n  z = call g(x);\n  z = call h(1, -x, x[x]);\n  read x;\n}\n": mainOf(
			set("x", one), Stmt{Kind: "put", Name: "y", Args: []Expr{x, at("x", one)}},
			Stmt{Kind: "call", Name: "z", Proc: "f"}, Stmt{Kind: "call", Name: "z", Proc: "g", Args: []Expr{x}},
			Stmt{Kind: "call", Name: "z", Proc: "h", Args: []Expr{one, op("neg", x), at("x", x)}}, Stmt{Kind: "read", Name: "x"}),
		"main {\n  assert false;\n  assume true;\n  assert true or true;\n  assume -x < 1;\n  assert (x + 1) * x >= 1 and 1 == x or x != 1 or true;\n}\n": mainOf(
			Stmt{Kind: "assert"}, Stmt{Kind: "assume", Cond: Cond{{}}}, Stmt{Kind: "assert", Cond: Cond{{}, {}}}, Stmt{Kind: "assume", Cond: Cond{{less(op("neg", x), one)}}},
			Stmt{Kind: "assert", Cond: Cond{{{op("*", op("+", x, one), x), ">=", one}, {one, "==", x}}, {{x, "!=", one}}, {}}}),
		"main {\n  if x < 1 {\n  }\n  if false {\n    if true {\n      x = 1;\n    } else {\n      x = 1;\n      while 1 < x {\n      }\n    }\n  } else {\n    x = 1;\n  }\n  if false {\n  } else {\n    x = 1;\n  }\n}\n": mainOf(
			Stmt{Kind: "if", Cond: Cond{{less(x, one)}}},
			Stmt{Kind: "if", Body: []Stmt{{Kind: "if", Cond: Cond{{}}, Body: []Stmt{set("x", one)}, Else: []Stmt{set("x", one), {Kind: "while", Cond: Cond{{less(one, x)}}}}}}, Else: []Stmt{set("x", one)}},
			Stmt{Kind: "if", Else: []Stmt{set("x", one)}}),
	} {
		if got, err := Text(p); got != want || err != nil {
			t.Errorf("%v: %q %v, want %q", told(p), got, err, want)
		}
	}
}

// P103: brackets stand only where the term would be another one without.
func TestTextTerms(t *testing.T) {
	a, b, c, d := named("a"), named("b"), named("c"), named("d")
	for want, e := range map[string]Expr{
		"a + b - c + d":       op("+", op("-", op("+", a, b), c), d),
		"a + (b + c)":         op("+", a, op("+", b, c)),
		"a - (b - (c - d))":   op("-", a, op("-", b, op("-", c, d))),
		"a + (b - c) + d":     op("+", op("+", a, op("-", b, c)), d),
		"a * b / c % d":       op("%", op("/", op("*", a, b), c), d),
		"a * (b / c)":         op("*", a, op("/", b, c)),
		"a % (b * (c / d))":   op("%", a, op("*", b, op("/", c, d))),
		"a + b * c - d":       op("-", op("+", a, op("*", b, c)), d),
		"a * b + c / d":       op("+", op("*", a, b), op("/", c, d)),
		"(a + b) * (c - d)":   op("*", op("+", a, b), op("-", c, d)),
		"(a + b) / c":         op("/", op("+", a, b), c),
		"-a * b":              op("*", op("neg", a), b),
		"a * -b":              op("*", a, op("neg", b)),
		"-(a * b)":            op("neg", op("*", a, b)),
		"-(a + b)":            op("neg", op("+", a, b)),
		"-a + b":              op("+", op("neg", a), b),
		"a - -b":              op("-", a, op("neg", b)),
		"--a - --1":           op("-", op("neg", op("neg", a)), op("neg", op("neg", num(1)))),
		"-(a - b) - -(c % d)": op("-", op("neg", op("-", a, b)), op("neg", op("%", c, d))),
		"a[b + c] * d":        op("*", at("a", op("+", b, c)), d),
		"-a[-b]":              op("neg", at("a", op("neg", b))),
		"a[b[c * (d + 0)]]":   at("a", at("b", op("*", c, op("+", d, num(0))))),
	} {
		got, err := Text(mainOf(set("x", e)))
		if got != "main {\n  x = "+want+";\n}\n" || err != nil {
			t.Errorf("%q %v, want %q", got, err, want)
		}
	}
}

// noNames there are, some of which would make other texts.
func noNames() []string {
	return append(keywords(), "", " ", "x ", " x", "x y", "abcdefghi", strings.Repeat("x", 5000), "X", "xY", "x1", "1", "0", "-x", "(x)", "x[1]", "x + y", "x;", "x;\n  y", "x = 1;\n  y", "x\n", "\x00", "\u00e4", "\xff", "x, y", "x{", "_", "num{", "1 < 1 {\n  }\n  x")
}

// statements of all kinds, each with all its fields.
func statements() []Stmt {
	x, cond, body := named("x"), Cond{{less(num(1), num(2))}}, []Stmt{{Kind: "read", Name: "x"}}
	return []Stmt{
		{Kind: "set", Name: "x", Args: []Expr{x}},
		{Kind: "put", Name: "x", Args: []Expr{x, x}},
		{Kind: "call", Name: "x", Proc: "f", Args: []Expr{x, x}},
		{Kind: "if", Cond: cond, Body: body, Else: body},
		{Kind: "while", Cond: cond, Body: body},
		{Kind: "assert", Cond: cond},
		{Kind: "assume", Cond: cond},
		{Kind: "read", Name: "x"},
	}
}

// terms of all ops.
func terms() []Expr {
	l := []Expr{num(1), named("x"), at("x", num(1)), op("neg", named("x"))}
	for _, s := range strings.Fields("+ - * / %") {
		l = append(l, op(s, num(1), named("x")))
	}
	return l
}

func hasText(t *testing.T, p Program) {
	t.Helper()
	if s, err := Text(p); s == "" || err != nil {
		t.Errorf("%.300s: %q %v", told(p), s, err)
	}
}

func hasNone(t *testing.T, p Program) {
	t.Helper()
	if s, err := Text(p); s != "" || err != api.ErrShape {
		t.Errorf("%.300s: %.300q %v", told(p), s, err)
	}
}

// everywhere hands on programs in which a statement stands, at all depths.
func everywhere(s Stmt, see func(Program)) {
	l := []Stmt{{Kind: "read", Name: "x"}, s}
	see(mainOf(s))
	see(mainOf(l...))
	see(mainOf(Stmt{Kind: "if", Body: l}))
	see(mainOf(Stmt{Kind: "if", Else: l}))
	see(mainOf(Stmt{Kind: "while", Body: []Stmt{{Kind: "while", Body: l}}}))
	see(Program{Procs: []Proc{{Name: "f", Return: num(1)}, {Name: "f", Body: l, Return: num(1)}}})
}

// anywhere hands on programs in which a term stands.
func anywhere(e Expr, see func(Program)) {
	for _, f := range []Expr{e, at("x", e), op("neg", e), op("+", e, num(1)), op("*", num(1), e), op("-", op("/", e, num(1)), num(1))} {
		see(mainOf(set("x", f)))
		see(mainOf(Stmt{Kind: "put", Name: "x", Args: []Expr{f, num(1)}}))
		see(mainOf(Stmt{Kind: "put", Name: "x", Args: []Expr{num(1), f}}))
		see(mainOf(Stmt{Kind: "call", Name: "x", Proc: "f", Args: []Expr{num(1), f}}))
		see(mainOf(Stmt{Kind: "if", Cond: Cond{{less(f, num(1))}}}))
		see(mainOf(Stmt{Kind: "assert", Cond: Cond{{}, {less(num(1), num(1)), less(num(1), f)}}}))
		see(Program{Procs: []Proc{{Name: "f", Return: f}}})
	}
}

// P103: a name that none has.
func TestTextNames(t *testing.T) {
	for _, s := range noNames() {
		hasNone(t, Program{Vars: []string{"x", s}})
		hasNone(t, Program{Arrays: []Array{{s, 1}}})
		hasNone(t, Program{Procs: []Proc{{Name: s, Return: num(1)}}})
		hasNone(t, Program{Procs: []Proc{{Name: "f", Params: []string{"x", s}, Return: num(1)}}})
		anywhere(named(s), func(p Program) { hasNone(t, p) })
		anywhere(at(s, num(1)), func(p Program) { hasNone(t, p) })
		for _, x := range statements() {
			if x.Name != "" {
				x.Name = s
				everywhere(x, func(p Program) { hasNone(t, p) })
			}
		}
		everywhere(Stmt{Kind: "call", Name: "x", Proc: s}, func(p Program) { hasNone(t, p) })
	}
}

// P103: a number that none has.
func TestTextNumbers(t *testing.T) {
	for _, n := range []int{-1, -api.MaxValue, api.MaxValue + 1, math.MaxInt, math.MinInt} {
		hasNone(t, Program{Arrays: []Array{{"x", n}}})
		anywhere(num(n), func(p Program) { hasNone(t, p) })
	}
	for _, n := range []int{0, 1, 17, api.MaxValue} {
		hasText(t, Program{Arrays: []Array{{"x", n}}})
		anywhere(num(n), func(p Program) { hasText(t, p) })
	}
}

// P100, P103: a statement has the fields that its kind names, and no others.
func TestTextStatements(t *testing.T) {
	for _, kind := range append(noNames(), "Set", "sets", "let", "return", "else", "set ", "num", "block") {
		if !slices.ContainsFunc(statements(), func(s Stmt) bool { return s.Kind == kind }) {
			for _, s := range append(statements(), Stmt{}) {
				s.Kind = kind
				everywhere(s, func(p Program) { hasNone(t, p) })
			}
		}
	}
	none := func(s Stmt) { t.Helper(); everywhere(s, func(p Program) { hasNone(t, p) }) }
	for _, s := range statements() {
		everywhere(s, func(p Program) { hasText(t, p) })
		more := s
		more.Args = append(slices.Clone(s.Args), num(1))
		if s.Kind != "call" {
			none(more)
		}
		if s.Kind == "set" || s.Kind == "put" {
			fewer := s
			fewer.Args = s.Args[1:]
			none(fewer)
		}
		if s.Name == "" {
			more = s
			more.Name = "x"
			none(more)
		}
		if s.Proc == "" {
			more = s
			more.Proc = "f"
			none(more)
		}
		for _, cond := range []Cond{{{}}, {{less(num(1), num(1))}}} {
			if len(s.Cond) == 0 {
				more = s
				more.Cond = cond
				none(more)
			}
		}
		if len(s.Body) == 0 {
			more = s
			more.Body = statements()[:1]
			none(more)
		}
		if len(s.Else) == 0 && s.Kind != "if" {
			more = s
			more.Else = statements()[:1]
			none(more)
		}
	}
}

// P100, P103: a term has the fields that its op names, and no others.
func TestTextTermFields(t *testing.T) {
	none := func(e Expr) { t.Helper(); anywhere(e, func(p Program) { hasNone(t, p) }) }
	for _, s := range append(noNames(), "<", "==", "=", "++", "+ ", "Num", "Var", "plus", "!", "or", "call") {
		if !slices.ContainsFunc(terms(), func(e Expr) bool { return e.Op == s }) {
			for _, e := range append(terms(), Expr{}) {
				e.Op = s
				none(e)
			}
		}
	}
	for _, e := range terms() {
		anywhere(e, func(p Program) { hasText(t, p) })
		more := e
		more.L = append(slices.Clone(e.L), num(1))
		none(more)
		if len(e.L) > 0 {
			fewer := e
			fewer.L = e.L[1:]
			none(fewer)
			fewer.L = nil
			none(fewer)
		}
		if e.Name == "" {
			more = e
			more.Name = "x"
			none(more)
		}
		if e.Op != "num" {
			more = e
			more.N = 1
			none(more)
		}
	}
}

// P100, P103: tests have a Rel, and terms.
func TestTextTests(t *testing.T) {
	one := num(1)
	see := func(x Test, is func(*testing.T, Program)) {
		t.Helper()
		for _, c := range []Cond{{{x}}, {{}, {x}}, {{less(one, one), x}}, {{x, less(one, one)}, {}}} {
			for _, kind := range strings.Fields("if while assert assume") {
				everywhere(Stmt{Kind: kind, Cond: c}, func(p Program) { t.Helper(); is(t, p) })
			}
		}
	}
	for _, rel := range strings.Fields("< <= == != > >=") {
		see(Test{one, rel, one}, hasText)
	}
	for _, rel := range []string{"", "=", "=<", "=>", "<>", "!", "===", "< ", " <", "<\n", "+", "and", "or", "lt", "< 1 and 1 <", "<-"} {
		see(Test{one, rel, one}, hasNone)
	}
	see(Test{Expr{}, "<", one}, hasNone)
	see(Test{one, "<", Expr{}}, hasNone)
	see(Test{}, hasNone)
}

// P103: a procedure has what it returns, and a program what it names.
func TestTextShapes(t *testing.T) {
	hasNone(t, Program{Procs: []Proc{{Name: "f"}}})
	hasNone(t, Program{Procs: []Proc{{}}})
	hasNone(t, Program{Arrays: []Array{{}}})
	hasNone(t, Program{Vars: []string{""}})
	hasNone(t, mainOf(Stmt{}))
	hasNone(t, mainOf(set("x", Expr{})))
	hasText(t, Program{Procs: []Proc{{Name: "f", Params: []string{}, Body: []Stmt{}, Return: num(0)}}})
	// An empty list is none.
	empty := Stmt{Kind: "read", Name: "x", Args: []Expr{}, Cond: Cond{}, Body: []Stmt{}, Else: []Stmt{}}
	full := Program{Vars: []string{}, Arrays: []Array{}, Procs: []Proc{}, Main: []Stmt{empty, {Kind: "assert", Cond: Cond{}}, set("y", Expr{Op: "num", L: []Expr{}})}}
	if s, err := Text(full); s != "main {\n  read x;\n  assert false;\n  y = 0;\n}\n" || err != nil {
		t.Errorf("%q %v", s, err)
	}
}

// nested in itself so many times.
func nested(e Expr, many int, wrap func(Expr) Expr) Expr {
	for range many {
		e = wrap(e)
	}
	return e
}

// P103: a depth that none has: statements and terms are as deep as they are in the text.
func TestTextDeep(t *testing.T) {
	x, one := named("x"), num(1)
	for _, wrap := range []func(Expr) Expr{
		func(e Expr) Expr { return op("neg", e) },
		func(e Expr) Expr { return at("x", e) },
		func(e Expr) Expr { return op("-", x, op("+", e, x)) }, // in brackets, but for the first
		func(e Expr) Expr { return op("*", op("+", e, x), x) },
	} {
		hasText(t, mainOf(set("x", nested(one, 11, wrap))))
		hasText(t, mainOf(set("x", op("+", nested(one, 11, wrap), nested(one, 10, wrap)))))
		hasNone(t, mainOf(set("x", nested(one, 13, wrap))))
		hasNone(t, mainOf(set("x", one), Stmt{Kind: "assert", Cond: Cond{{}, {less(one, nested(one, 13, wrap))}}}))
	}
	hasNone(t, mainOf(set("x", nested(one, 12, func(e Expr) Expr { return op("neg", e) }))))
	hasNone(t, mainOf(set("x", nested(one, 12, func(e Expr) Expr { return at("x", e) }))))
	// The last is not in brackets.
	right := func(e Expr) Expr { return op("-", x, e) }
	hasText(t, mainOf(set("x", nested(one, 12, right))))
	hasNone(t, mainOf(set("x", nested(one, 13, right))))
	// What needs no brackets is no deeper.
	hasText(t, mainOf(set("x", nested(one, 900, func(e Expr) Expr { return op("-", e, x) }))))
	hasText(t, mainOf(set("x", nested(one, 900, func(e Expr) Expr { return op("/", e, x) }))))
	for _, wrap := range []func(s Stmt) Stmt{
		func(s Stmt) Stmt { return Stmt{Kind: "while", Body: []Stmt{s}} },
		func(s Stmt) Stmt { return Stmt{Kind: "if", Body: []Stmt{s}} },
		func(s Stmt) Stmt { return Stmt{Kind: "if", Else: []Stmt{s}} },
	} {
		// Terms do not stand in statements.
		s := set("x", nested(one, 11, func(e Expr) Expr { return op("neg", e) }))
		for range 11 {
			s = wrap(s)
			hasText(t, mainOf(s))
		}
		hasNone(t, mainOf(wrap(s)))
		hasText(t, Program{Procs: []Proc{{Name: "f", Body: []Stmt{s}, Return: num(1)}}})
		hasNone(t, Program{Procs: []Proc{{Name: "f", Body: []Stmt{wrap(s)}, Return: num(1)}}})
	}
}

// P103: of a text that is too long to be read, Read makes nothing.
func TestTextLength(t *testing.T) {
	l := slices.Repeat([]Stmt{set("x", num(1))}, 442)
	most := mainOf(append(l, set("xxxxx", num(1)))...)
	if s, err := Text(most); len(s) != api.MaxText || err != nil {
		t.Error(len(s), err)
	}
	hasNone(t, mainOf(append(l, set("xxxxxx", num(1)))...))
	hasNone(t, Program{Main: most.Main, Vars: []string{"x"}})
	hasNone(t, mainOf(slices.Repeat(l, 100)...))
	// What has been read may have no text: there is more between its words.
	for _, s := range []string{
		"main{" + strings.Repeat("x=1;", 998) + "}",
		"main{x=x" + strings.Repeat("+x", 1990) + ";}",
		"proc f(){return x" + strings.Repeat("+x", 1900) + ";}main{}",
		"main{" + strings.Repeat("while true{", 11) + strings.Repeat("x=1;", 960) + strings.Repeat("}", 12),
	} {
		p, err := Read(s)
		if err != nil {
			t.Fatal(err)
		}
		hasNone(t, p)
	}
}

// P1: writing ends, however much there is, also if much of it is one and the same memory.
func TestTextEnds(t *testing.T) {
	one := num(1)
	hasNoneOf := func(p Program) {
		t.Helper()
		if s, err := Text(p); s != "" || err != api.ErrShape {
			t.Errorf("%.100q %v", s, err)
		}
	}
	terms := []Expr{
		// Nothing of it can be written ahead of the innermost.
		nested(one, 3_000_000, func(e Expr) Expr { return op("+", e, one) }),
		nested(one, 100_000, func(e Expr) Expr { return op("+", one, e) }),
		nested(one, 100_000, func(e Expr) Expr { return op("neg", e) }),
		nested(one, 100_000, func(e Expr) Expr { return at("x", e) }),
		nested(one, 100_000, func(e Expr) Expr { return op("*", e, one) }),
		nested(one, 100_000, func(e Expr) Expr { return Expr{Op: "at", L: []Expr{e}} }),
		nested(one, 200, func(e Expr) Expr { return op("+", e, e) }),
		nested(one, 200, func(e Expr) Expr { return op("-", op("*", e, e), e) }),
		{Op: "+", L: make([]Expr, 1_000_000)},
	}
	for _, e := range terms {
		anywhere(e, hasNoneOf)
	}
	for _, wide := range []int{1, 2, 1000} {
		l := slices.Repeat([]Stmt{{Kind: "read", Name: "x"}}, wide)
		for range 100_000/wide/wide*wide + 100 {
			l = slices.Repeat([]Stmt{{Kind: "if", Body: l, Else: l}}, wide)
		}
		hasNoneOf(mainOf(l...))
		hasNoneOf(Program{Procs: []Proc{{Name: "f", Body: l, Return: one}}})
	}
	long := strings.Repeat("x", 1<<20)
	names := slices.Repeat([]string{long}, 100_000)
	hasNoneOf(Program{Vars: names})
	hasNoneOf(Program{Procs: []Proc{{Name: "f", Params: names, Return: one}}})
	hasNoneOf(Program{Procs: make([]Proc, 100_000)})
	hasNoneOf(mainOf(make([]Stmt, 100_000)...))
	hasNoneOf(mainOf(slices.Repeat([]Stmt{{Kind: "assert", Cond: make(Cond, 100_000)}}, 100_000)...))
	hasNoneOf(mainOf(Stmt{Kind: "assert", Cond: slices.Repeat(Cond{make([]Test, 100_000)}, 100_000)}))
	hasNoneOf(mainOf(Stmt{Kind: "call", Name: "x", Proc: "f", Args: slices.Repeat([]Expr{terms[0]}, 100_000)}))
}

package check

import (
	"fmt"
	"math/rand"
	"reflect"
	"regexp"
	"slices"
	"strings"
	"sync"
	"testing"

	"raycone/api"
	"raycone/lang"
)

// maker of programs at random: most names that it uses are there.
type maker struct {
	*rand.Rand
	vars, arrays []string
	procs        []lang.Proc
	wrong        int // one of so many names, or numbers of arguments, is wrong
}

// one of some names, or another one.
func (m maker) one(l []string) string {
	if len(l) == 0 || m.Intn(m.wrong) == 0 {
		return []string{"x", "a", "f", "pa", "q"}[m.Intn(5)]
	}
	return l[m.Intn(len(l))]
}

func (m maker) term(deep int) lang.Expr {
	switch n := m.Intn(9); {
	case deep <= 0 || n < 2:
		if n%2 == 0 {
			return lang.Expr{Op: "num", N: m.Intn(20)}
		}
		return lang.Expr{Op: "var", Name: m.one(m.vars)}
	case n == 2 && len(m.arrays) > 0:
		return lang.Expr{Op: "at", Name: m.one(m.arrays), L: m.terms(1, deep-1)}
	case n == 3:
		return lang.Expr{Op: "neg", L: m.terms(1, deep-1)}
	default:
		return lang.Expr{Op: []string{"+", "-", "*", "/", "%"}[n%5], L: m.terms(2, deep-1)}
	}
}

func (m maker) terms(many, deep int) []lang.Expr {
	var l []lang.Expr
	for range many {
		l = append(l, m.term(deep))
	}
	return l
}

func (m maker) cond() lang.Cond {
	var c lang.Cond
	for range m.Intn(3) {
		var row []lang.Test
		for range m.Intn(3) {
			row = append(row, lang.Test{A: m.term(1), Rel: []string{"<", "!="}[m.Intn(2)], B: m.term(1)})
		}
		c = append(c, row)
	}
	return c
}

func (m maker) block(many, deep int) []lang.Stmt {
	var l []lang.Stmt
	for range m.Intn(many + 1) {
		l = append(l, m.statement(deep))
	}
	return l
}

func (m maker) statement(deep int) lang.Stmt {
	switch n := m.Intn(12); {
	case n < 4 && len(m.procs) > 0:
		c := m.procs[m.Intn(len(m.procs))]
		many := len(c.Params)
		if m.Intn(m.wrong) == 0 {
			many = m.Intn(4)
		}
		s := lang.Stmt{Kind: "call", Name: m.one(m.vars), Proc: c.Name, Args: m.terms(many, 1)}
		if m.Intn(m.wrong) == 0 {
			s.Proc = m.one(m.vars)
		}
		return s
	case n == 4 && len(m.arrays) > 0:
		return lang.Stmt{Kind: "put", Name: m.one(m.arrays), Args: m.terms(2, 2)}
	case n == 5:
		return lang.Stmt{Kind: "read", Name: m.one(m.vars)}
	case n == 6:
		return lang.Stmt{Kind: []string{"assert", "assume"}[m.Intn(2)], Cond: m.cond()}
	case n < 9 && deep > 0:
		return lang.Stmt{Kind: "while", Cond: m.cond(), Body: m.block(3, deep-1)}
	case n < 11 && deep > 0:
		return lang.Stmt{Kind: "if", Cond: m.cond(), Body: m.block(3, deep-1), Else: m.block(2, deep-1)}
	default:
		return lang.Stmt{Kind: "set", Name: m.one(m.vars), Args: m.terms(1, 3)}
	}
}

// program at random: main is so long, and calls come so deep.
func (m maker) program(many, deep int) lang.Program {
	var p lang.Program
	for range 1 + m.Intn(3) {
		p.Vars = append(p.Vars, m.fresh(p, "x"))
	}
	for range m.Intn(3) {
		a := lang.Array{Name: m.fresh(p, "a"), Size: 1 + m.Intn(16)}
		if m.Intn(m.wrong) == 0 {
			a.Size = 17 * m.Intn(2)
		}
		p.Arrays = append(p.Arrays, a)
	}
	m.vars = p.Vars
	for _, a := range p.Arrays {
		m.arrays = append(m.arrays, a.Name)
	}
	for range m.Intn(5) {
		c := lang.Proc{Name: m.fresh(p, "f")}
		for range m.Intn(3) {
			c.Params = append(c.Params, m.fresh(lang.Program{Procs: append(slices.Clone(p.Procs), c), Vars: p.Vars}, "p"))
		}
		in := m
		in.vars, in.procs = slices.Concat(m.vars, c.Params), p.Procs
		c.Body, c.Return = in.block(many, deep), in.term(2)
		p.Procs = append(p.Procs, c)
	}
	m.procs = p.Procs
	p.Main = m.block(many, deep)
	return p
}

// fresh name: none of p's, but where it is wrong.
func (m maker) fresh(p lang.Program, kind string) string {
	number := len(p.Vars) + len(p.Arrays)
	for _, c := range p.Procs {
		number += 1 + len(c.Params)
	}
	if m.Intn(m.wrong) == 0 {
		number = m.Intn(number + 1)
	}
	return kind + string(rune('a'+number%26))
}

var oneWord = regexp.MustCompile(`[a-z]+|[0-9]+|\S`)

// section of a text: a procedure, or main.
type section struct {
	name   string
	params []string
	words  []string
}

// sections of a text, and its variables and arrays.
func sections(s string) (vars, arrays []string, l []section) {
	for _, line := range strings.Split(strings.TrimSpace(s), "\n") {
		words := oneWord.FindAllString(line, -1)
		switch words[0] {
		case "var":
			vars = append(vars, words[1])
		case "array":
			arrays = append(arrays, words[1])
		case "proc":
			params := slices.DeleteFunc(slices.Clone(words[3:]), func(w string) bool { return w[0] < 'a' || w[0] > 'z' })
			l = append(l, section{name: words[1], params: params})
		case "main":
			l = append(l, section{})
		default:
			at := &l[len(l)-1]
			at.words = append(at.words, words...)
		}
	}
	return vars, arrays, l
}

// named in a section: each name, and whether it stands behind `call` or ahead of `[`.
func named(x section, see func(name string, called, placed bool, at int)) {
	keywords := strings.Fields("return call if else while assert assume read false true or and")
	for i, w := range x.words {
		if w[0] >= 'a' && w[0] <= 'z' && !slices.Contains(keywords, w) {
			see(w, i > 0 && x.words[i-1] == "call", i+1 < len(x.words) && x.words[i+1] == "[", i)
		}
	}
}

// arguments of a call, of which the name stands at a word: commas that stand in its own brackets.
func arguments(words []string, at int) int {
	if words[at+2] == ")" {
		return 0
	}
	many, open := 1, 0
	for _, w := range words[at+1:] {
		switch {
		case w == "(" || w == "[":
			open++
		case w == ")" || w == "]":
			open--
		case w == "," && open == 1:
			many++
		}
		if open == 0 {
			break
		}
	}
	return many
}

// judged by its words alone: the rules of P110.
func judged(t *testing.T, p lang.Program) error {
	vars, arrays, l := sections(text(t, p))
	all := slices.Concat(vars, arrays)
	for _, x := range l[:len(l)-1] {
		all = append(all, x.params...)
	}
	if len(all) > 12 || len(l) > 7 || slices.ContainsFunc(p.Arrays, func(a lang.Array) bool { return a.Size == 0 || a.Size > 16 }) {
		return api.ErrBound
	}
	for _, x := range l[:len(l)-1] {
		all = append(all, x.name)
	}
	slices.Sort(all)
	if len(slices.Compact(slices.Clone(all))) < len(all) {
		return api.ErrName
	}
	names, args := true, true
	for i, x := range l {
		named(x, func(name string, called, placed bool, at int) {
			number := slices.IndexFunc(l[:i], func(x section) bool { return x.name == name })
			switch {
			case called && number < 0:
				names = false
			case called:
				args = args && arguments(x.words, at) == len(l[number].params)
			case placed:
				names = names && slices.Contains(arrays, name)
			default:
				names = names && slices.Contains(slices.Concat(vars, x.params), name)
			}
		})
	}
	switch {
	case !names:
		return api.ErrName
	case !args:
		return api.ErrShape
	}
	return nil
}

// P110: programs at random, against what their words say.
func TestCheckRandom(t *testing.T) {
	r := rand.New(rand.NewSource(1))
	seen, long := map[error]int{}, 0
	for range 12000 {
		p := maker{Rand: r, wrong: []int{5, 20, 60, 500}[r.Intn(4)]}.program([]int{3, 3, 3, 3, 3, 24}[r.Intn(6)], 2)
		if _, err := lang.Text(p); err != nil {
			answers(t, p, api.ErrShape)
			long++
			continue
		}
		want := judged(t, p)
		answers(t, p, want)
		seen[want]++
	}
	for _, err := range []error{nil, api.ErrBound, api.ErrName, api.ErrShape} {
		if seen[err] < 50 {
			t.Errorf("%v: %d", err, seen[err])
		}
	}
	if long < 20 {
		t.Error(long)
	}
}

// oneStep: the first call of some statements is laid out, if there is one.
func oneStep(l []lang.Stmt, procs []lang.Proc) ([]lang.Stmt, bool) {
	for i, s := range l {
		if s.Kind == "call" {
			at := slices.IndexFunc(procs, func(c lang.Proc) bool { return c.Name == s.Proc })
			var now []lang.Stmt
			for j, name := range procs[at].Params {
				now = append(now, lang.Stmt{Kind: "set", Name: name, Args: s.Args[j : j+1]})
			}
			now = append(now, procs[at].Body...)
			now = append(now, lang.Stmt{Kind: "set", Name: s.Name, Args: []lang.Expr{procs[at].Return}})
			return slices.Concat(l[:i], now, l[i+1:]), true
		}
		body, one := oneStep(s.Body, procs)
		other, two := s.Else, false
		if !one {
			other, two = oneStep(s.Else, procs)
		}
		if one || two {
			l = slices.Clone(l)
			l[i].Body, l[i].Else = body, other
			return l, true
		}
	}
	return l, false
}

// stepByStep: one call behind the other is laid out, until none is left.
func stepByStep(p lang.Program) (lang.Program, error) {
	q := lang.Program{Vars: slices.Clone(p.Vars), Arrays: p.Arrays, Main: p.Main}
	for _, c := range p.Procs {
		q.Vars = append(q.Vars, c.Params...)
	}
	for more := true; more; {
		q.Main, more = oneStep(q.Main, p.Procs)
		// No step makes fewer.
		if counted(q.Main) > 400 || deepest(q.Main) > api.MaxDeep {
			return lang.Program{}, api.ErrBound
		}
	}
	return q, nil
}

// P111, P113: what is inlined is what comes step by step; where it has a text, it is right, has no calls, and inlined again is the same.
func TestInlineRandom(t *testing.T) {
	r := rand.New(rand.NewSource(2))
	good, much, long := 0, 0, 0
	for range 3000 {
		p := maker{Rand: r, wrong: 1 << 30}.program(3+r.Intn(6), r.Intn(4))
		if Check(p) != nil {
			continue
		}
		q, err := Inline(p)
		comesStepByStep(t, p, q, err)
		if err != nil {
			much++
			continue
		}
		if _, err := lang.Text(q); err != nil {
			answers(t, q, api.ErrShape)
			long++
			continue
		}
		inlinedIsRight(t, q)
		good++
	}
	if good < 1000 || much < 20 || long < 50 {
		t.Error(good, much, long)
	}
}

// comesStepByStep: what Inline says of p.
func comesStepByStep(t *testing.T, p, q lang.Program, err error) {
	t.Helper()
	if want, none := stepByStep(p); told(q) != told(want) || err != none {
		t.Fatalf("%.300s: %.300s %v, want %.300s %v", told(p), told(q), err, told(want), none)
	}
}

func inlinedIsRight(t *testing.T, q lang.Program) {
	t.Helper()
	if err := Check(q); err != nil || len(q.Procs) > 0 || strings.Contains(told(q), "Kind:call") {
		t.Fatalf("%.300s: %v", told(q), err)
	}
	if again, err := Inline(q); told(again) != told(q) || err != nil {
		t.Fatalf("%.300s: %.300s %v", told(q), told(again), err)
	}
}

// P111: also the longest that can come of a right program is told, though it has no text, and so is none that is right (P110).
func TestInlineLong(t *testing.T) {
	many := strings.Repeat
	sum := "x" + many("+x", 800)
	for s, want := range map[string]int{
		"var x;proc a(){return " + sum + ";}proc b(){" + many("x=call a();", 7) + "return x;}proc c(){" + many("x=call b();", 6) + "return x;}main{" + many("x=call c();", 7) + "}": 343,
		"var x;proc a(){x=" + sum + ";return x;}proc b(){" + many("x=call a();", 13) + "return x;}main{" + many("x=call b();", 14) + "}":                                            378,
		"var x;proc a(u){if " + sum + "<u{}return u;}proc b(){" + many("x=call a(1);", 9) + "return x;}main{" + many("x=call b();", 14) + "}":                                       392,
		"var xxxxxx;proc f(){" + many("xxxxxx=1;", 100) + "return 1;}main{" + many("xxxxxx=call f();", 3) + "}":                                                                     303,
		"var x;proc f(){" + many("x=1;", 100) + "return 1;}main{" + within("x=call f();x=call f();", 11) + "}":                                                                      215,
	} {
		p := read(t, s)
		text(t, p)
		q, err := Inline(p)
		comesStepByStep(t, p, q, err)
		if counted(q.Main) != want {
			t.Errorf("%.100q: %d, want %d", s, counted(q.Main), want)
		}
		answers(t, q, api.ErrShape)
	}
}

// P112: programs at random, against what their words say.
func TestUsedRandom(t *testing.T) {
	r := rand.New(rand.NewSource(3))
	for range 4000 {
		p := maker{Rand: r, wrong: 1 << 30}.program(4, 2)
		s, err := lang.Text(p)
		if err != nil || Check(p) != nil {
			continue
		}
		_, _, l := sections(s)
		open, seen := []section{l[len(l)-1]}, map[string]bool{}
		for ; len(open) > 0; open = open[1:] {
			named(open[0], func(name string, called, _ bool, _ int) {
				if called && !seen["call "+name] {
					open = append(open, l[slices.IndexFunc(l, func(x section) bool { return x.name == name })])
					seen["call "+name] = true
				}
				if !called {
					seen[name] = true
				}
			})
		}
		var want []string
		for name := range seen {
			if !strings.HasPrefix(name, "call ") {
				want = append(want, name)
			}
		}
		slices.Sort(want)
		if got, err := Used(p); !slices.Equal(got, want) || err != nil {
			t.Fatalf("%q: %v %v, want %v", s, got, err, want)
		}
	}
}

// memory of all lists in a value.
func memory(v reflect.Value, see func(from, to uintptr)) {
	switch v.Kind() {
	case reflect.Struct:
		for i := range v.NumField() {
			memory(v.Field(i), see)
		}
	case reflect.Slice:
		if v.Cap() > 0 {
			see(v.Pointer(), v.Pointer()+uintptr(v.Cap())*v.Type().Elem().Size())
		}
		for i := range v.Len() {
			memory(v.Index(i), see)
		}
	}
}

// P4: what is handed over is only read, and no two lists of what is inlined share memory, with each other or with it.
func TestInlineIsNew(t *testing.T) {
	r := rand.New(rand.NewSource(4))
	for range 300 {
		p := maker{Rand: r, wrong: 1 << 30}.program(4, 2)
		before := told(p)
		q, err := Inline(p)
		if _, bad := Used(p); bad != nil || err != nil {
			continue
		}
		if told(p) != before {
			t.Fatalf("%s, was %s", told(p), before)
		}
		type piece struct{ from, to uintptr }
		var l []piece
		see := func(from, to uintptr) { l = append(l, piece{from, to}) }
		memory(reflect.ValueOf(p), see)
		memory(reflect.ValueOf(q), see)
		slices.SortFunc(l, func(a, b piece) int { return int(a.from) - int(b.from) })
		for i := 1; i < len(l); i++ {
			if l[i].from < l[i-1].to {
				t.Fatalf("%s: two lists share memory", before)
			}
		}
	}
}

// P3: nothing behind the lengths of lists is read, or written.
func TestBehindLengths(t *testing.T) {
	one := lang.Expr{Op: "num", N: 1}
	bad := lang.Stmt{Kind: "?"}
	vars := []string{"x", "x", "?"}
	arrays := []lang.Array{{Name: "a", Size: 1}, {Name: "x", Size: 99}}
	params := []string{"y", "x", "?"}
	args := []lang.Expr{one, {Op: "?"}}
	body := []lang.Stmt{{Kind: "set", Name: "x", Args: args[:1]}, bad}
	procs := []lang.Proc{{Name: "f", Params: params[:1], Body: body[:1], Return: one}, {}}
	tests := []lang.Test{{A: one, Rel: "<", B: one}, {}}
	rows := lang.Cond{tests[:1], {{}}}
	main := []lang.Stmt{{Kind: "if", Cond: rows[:1], Body: body[:1], Else: []lang.Stmt{{Kind: "call", Name: "x", Proc: "f", Args: args[:1]}, bad}[:1]}, bad}
	p := lang.Program{Vars: vars[:1], Arrays: arrays[:1], Procs: procs[:1], Main: main[:1]}
	before := fmt.Sprint(vars, arrays, params, args, body, procs, tests, rows, main)
	answers(t, p, nil)
	q, err := Inline(p)
	want := "var x;\nvar y;\narray a[1];\nmain {\n  if 1 < 1 {\n    x = 1;\n  } else {\n    y = 1;\n    x = 1;\n    x = 1;\n  }\n}\n"
	if s := text(t, q); s != want || err != nil {
		t.Errorf("%q %v", s, err)
	}
	if after := fmt.Sprint(vars, arrays, params, args, body, procs, tests, rows, main); after != before {
		t.Error(after)
	}
}

// P2: the same is answered, also side by side.
func TestSideBySide(t *testing.T) {
	r := rand.New(rand.NewSource(5))
	var programs []lang.Program
	var wants []string
	all := func(p lang.Program) string {
		q, err := Inline(p)
		l, bad := Used(p)
		return fmt.Sprint(Check(p), told(q), err, l, bad)
	}
	for range 60 {
		p := maker{Rand: r, wrong: 50}.program(4, 2)
		programs, wants = append(programs, p), append(wants, all(p))
	}
	var wait sync.WaitGroup
	for range 8 {
		wait.Go(func() {
			for i, p := range programs {
				if got := all(p); got != wants[i] {
					t.Errorf("%s, want %s", got, wants[i])
				}
			}
		})
	}
	wait.Wait()
}

// P1: every call ends, however much there is, also if much of it is one and the same memory.
func TestEnds(t *testing.T) {
	one := lang.Expr{Op: "num", N: 1}
	chain, fan := one, one
	for i := range 1_000_000 {
		chain = lang.Expr{Op: "+", L: []lang.Expr{chain, one}}
		if i < 100 {
			fan = lang.Expr{Op: "*", L: []lang.Expr{fan, fan}}
		}
	}
	blocks := []lang.Stmt{{Kind: "read", Name: "x"}}
	for range 11 {
		blocks = slices.Repeat([]lang.Stmt{{Kind: "if", Body: blocks, Else: blocks}}, 50)
	}
	set := func(e lang.Expr) []lang.Stmt { return []lang.Stmt{{Kind: "set", Name: "x", Args: []lang.Expr{e}}} }
	for _, p := range []lang.Program{
		{Main: set(chain)}, {Main: set(fan)}, {Main: blocks}, {Main: slices.Repeat(blocks, 1000)}, {Procs: []lang.Proc{{Name: "f", Body: blocks, Return: chain}}},
		{Main: make([]lang.Stmt, 1_000_000)}, {Procs: make([]lang.Proc, 1_000_000)}, {Arrays: make([]lang.Array, 1_000_000)},
		{Main: []lang.Stmt{{Kind: "assert", Cond: slices.Repeat(lang.Cond{slices.Repeat([]lang.Test{{A: one, Rel: "<", B: one}}, 10_000)}, 10_000)}}},
	} {
		p.Vars = []string{"x"}
		if err := Check(p); err != api.ErrShape {
			t.Error(err)
		}
		if q, err := Inline(p); err != api.ErrShape || len(q.Vars) > 0 {
			t.Error(err)
		}
		if l, err := Used(p); err != api.ErrShape || len(l) > 0 {
			t.Error(l, err)
		}
	}
}

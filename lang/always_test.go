package lang

import (
	"cmp"
	"fmt"
	"math/rand"
	"reflect"
	"regexp"
	"slices"
	"strings"
	"sync"
	"testing"

	"raycone/api"
)

// maker of programs at random.
type maker struct{ *rand.Rand }

func (m maker) name() string {
	return []string{"a", "b", "xy", "abcdefgh", "at", "ifx", "set", "z"}[m.Intn(8)]
}

func (m maker) term(deep int) Expr {
	if deep <= 0 || m.Intn(4) == 0 {
		if m.Intn(2) == 0 {
			return num([]int{0, 1, 2, 10, api.MaxValue}[m.Intn(5)])
		}
		return named(m.name())
	}
	switch n := m.Intn(9); n {
	case 0:
		return at(m.name(), m.term(deep-1))
	case 1:
		return op("neg", m.term(deep-1))
	default:
		return op([]string{"+", "-", "*", "/", "%"}[n%5], m.term(deep-1), m.term(deep-1))
	}
}

func (m maker) terms(many, deep int) []Expr {
	var l []Expr
	for range many {
		l = append(l, m.term(deep))
	}
	return l
}

func (m maker) cond(deep int) Cond {
	var c Cond
	for range m.Intn(4) {
		var row []Test
		for range m.Intn(3) {
			row = append(row, Test{m.term(deep), []string{"<", "<=", "==", "!=", ">", ">="}[m.Intn(6)], m.term(deep)})
		}
		c = append(c, row)
	}
	return c
}

func (m maker) statements(many, deep int) []Stmt {
	var l []Stmt
	for range m.Intn(many + 1) {
		l = append(l, m.statement(deep))
	}
	return l
}

func (m maker) statement(deep int) Stmt {
	size := m.Intn(4)
	kinds := []string{"set", "put", "call", "assert", "assume", "read", "if", "while"}
	s := Stmt{Kind: kinds[m.Intn(len(kinds))]}
	switch s.Kind {
	case "set":
		s.Name, s.Args = m.name(), m.terms(1, size)
	case "put":
		s.Name, s.Args = m.name(), m.terms(2, size)
	case "call":
		s.Name, s.Proc, s.Args = m.name(), m.name(), m.terms(m.Intn(4), size)
	case "read":
		s.Name = m.name()
	default:
		s.Cond = m.cond(size)
	}
	if deep > 0 && (s.Kind == "if" || s.Kind == "while") {
		s.Body = m.statements(3, deep-1)
		if s.Kind == "if" {
			s.Else = m.statements(2, deep-1)
		}
	}
	return s
}

func (m maker) program() Program {
	var p Program
	for range m.Intn(4) {
		p.Vars = append(p.Vars, m.name())
	}
	for range m.Intn(3) {
		p.Arrays = append(p.Arrays, Array{m.name(), []int{0, 1, 16, 17, api.MaxValue}[m.Intn(5)]})
	}
	for range m.Intn(3) {
		c := Proc{Name: m.name(), Body: m.statements(3, 2), Return: m.term(3)}
		for range m.Intn(4) {
			c.Params = append(c.Params, m.name())
		}
		p.Procs = append(p.Procs, c)
	}
	p.Main = m.statements(5, m.Intn(5))
	return p
}

// said of a term, and how close it holds together: a sum 1, a product 2.
func said(e Expr) (string, int) {
	bracketed := func(e Expr, least int) string {
		s, close := said(e)
		if close < least {
			return "(" + s + ")"
		}
		return s
	}
	switch e.Op {
	case "num":
		return fmt.Sprint(e.N), 3
	case "var":
		return e.Name, 3
	case "at":
		return e.Name + "[" + bracketed(e.L[0], 1) + "]", 3
	case "neg":
		return "-" + bracketed(e.L[0], 3), 3
	case "+", "-":
		return bracketed(e.L[0], 1) + e.Op + bracketed(e.L[1], 2), 1
	}
	return bracketed(e.L[0], 2) + e.Op + bracketed(e.L[1], 3), 2
}

func saidAll(l []Expr) string {
	var all []string
	for _, e := range l {
		s, _ := said(e)
		all = append(all, s)
	}
	return strings.Join(all, ",")
}

func saidCond(c Cond) string {
	var rows []string
	for _, l := range c {
		var tests []string
		for _, x := range l {
			tests = append(tests, saidAll([]Expr{x.A})+x.Rel+saidAll([]Expr{x.B}))
		}
		rows = append(rows, cmp.Or(strings.Join(tests, " and "), "true"))
	}
	return cmp.Or(strings.Join(rows, " or "), "false")
}

func saidBlock(l []Stmt) string {
	var b strings.Builder
	for _, s := range l {
		switch s.Kind {
		case "set":
			b.WriteString(s.Name + "=" + saidAll(s.Args) + ";")
		case "put":
			b.WriteString(s.Name + "[" + saidAll(s.Args[:1]) + "]=" + saidAll(s.Args[1:]) + ";")
		case "call":
			b.WriteString(s.Name + "=call " + s.Proc + "(" + saidAll(s.Args) + ");")
		case "read":
			b.WriteString("read " + s.Name + ";")
		case "assert", "assume":
			b.WriteString(s.Kind + " " + saidCond(s.Cond) + ";")
		case "if", "while":
			b.WriteString(s.Kind + " " + saidCond(s.Cond) + saidBlock(s.Body))
		}
		if len(s.Else) > 0 {
			b.WriteString("else" + saidBlock(s.Else))
		}
	}
	return "{" + b.String() + "}"
}

// saidProgram: its words, with no more between than must be.
func saidProgram(p Program) string {
	s := ""
	for _, name := range p.Vars {
		s += "var " + name + ";"
	}
	for _, a := range p.Arrays {
		s += fmt.Sprintf("array %s[%d];", a.Name, a.Size)
	}
	for _, c := range p.Procs {
		s += "proc " + c.Name + "(" + strings.Join(c.Params, ",") + ")"
		s += strings.TrimSuffix(saidBlock(c.Body), "}") + "return " + saidAll([]Expr{c.Return}) + ";}"
	}
	return s + "main" + saidBlock(p.Main)
}

// Words around, and behind, which a blank stands.
var (
	around = regexp.MustCompile(`^(=|or|and|else|<|<=|==|!=|>|>=)$`)
	behind = regexp.MustCompile(`^(,|var|array|proc|return|call|if|while|assert|assume|read)$`)
)

// layout of a text, by its words alone: the rules of P103.
func layout(l []piece) string {
	var b strings.Builder
	blocks, fresh := 0, true
	operator := func(i int) bool {
		return strings.Contains("+*/%", l[i].kind) || l[i].kind == "-" && slices.Contains([]string{"n", "d", ")", "]"}, l[i-1].kind)
	}
	for i, p := range l {
		if p.text == "}" {
			blocks--
		}
		switch {
		case fresh:
			b.WriteString(strings.Repeat("  ", blocks))
		case p.text == "{", around.MatchString(p.text), around.MatchString(l[i-1].text), behind.MatchString(l[i-1].text), operator(i), operator(i - 1):
			b.WriteString(" ")
		}
		b.WriteString(p.text)
		if p.text == "{" {
			blocks++
		}
		fresh = p.text == ";" || p.text == "{" || p.text == "}" && (i+1 == len(l) || l[i+1].text != "else")
		if fresh {
			b.WriteString("\n")
		}
	}
	return b.String()
}

// withoutPairs hands on a text without each pair of its round brackets.
func withoutPairs(s string, see func(string)) {
	var open []int
	for i := range s {
		switch s[i] {
		case '(':
			open = append(open, i)
		case ')':
			from := open[len(open)-1]
			open = open[:len(open)-1]
			see(s[:from] + " " + s[from+1:i] + " " + s[i+1:])
		}
	}
}

// P103, P104: what is written is laid out as it should be, has no bracket too many, and is read as what was written, and again.
func TestWrittenIsRead(t *testing.T) {
	m := maker{rand.New(rand.NewSource(12))}
	for range 2000 {
		p := m.program()
		s, err := Text(p)
		if want := layout(pieces(saidProgram(p))); s != want || err != nil {
			t.Fatalf("%q %v, want %q", s, err, want)
		}
		back, err := Read(s)
		if told(back) != told(p) || err != nil {
			t.Fatalf("%q: %v %v, want %v", s, told(back), err, told(p))
		}
		if again, err := Text(back); again != s || err != nil {
			t.Fatalf("%q: %q %v", s, again, err)
		}
		withoutPairs(s, func(less string) {
			if other, err := Read(less); err == nil && told(other) == told(p) {
				t.Fatalf("%q: no other than %q", s, less)
			}
		})
	}
}

// P104: what is read is what its text is read as, however it was laid out.
func TestReadIsWritten(t *testing.T) {
	r, g := rand.New(rand.NewSource(13)), grammar()
	good := 0
	for range 4000 {
		s := lay(r, grow(r, g, "PROGRAM", nil, 0), r.Intn(20))
		p, err := Read(s)
		if err != nil {
			continue
		}
		text, err := Text(p)
		if err != nil {
			t.Fatalf("%q: %v", s, err)
		}
		if back, err := Read(text); told(back) != told(p) || err != nil {
			t.Fatalf("%q: %q %v, want %v", s, told(back), err, told(p))
		}
		var words []string
		for _, p := range pieces(text) {
			words = append(words, p.text)
		}
		if back, err := Read(lay(r, words, r.Intn(20))); told(back) != told(p) || err != nil {
			t.Fatalf("%q: %q %v, want %v", s, told(back), err, told(p))
		}
		good++
	}
	if good < 3000 {
		t.Error(good)
	}
}

// P1, P3: whatever is given, nothing panics, and an error stands alone.
func TestReadAnything(t *testing.T) {
	r := rand.New(rand.NewSource(14))
	for range 20000 {
		b := make([]byte, r.Intn(40))
		for i := range b {
			b[i] = "main{}=;x1()[]-<>! \n?\xff"[r.Intn(22)]
		}
		for _, s := range []string{string(b), "main{" + string(b), "main{x=" + string(b), "main{if " + string(b)} {
			p, err := Read(s)
			if err != nil && told(p) != told(Program{}) {
				t.Errorf("%q: %v %v", s, told(p), err)
			}
		}
	}
}

// memory of all lists in a value.
func memory(v reflect.Value, see func(from, to uintptr)) {
	switch v.Kind() {
	case reflect.Struct:
		for i := range v.NumField() {
			memory(v.Field(i), see)
		}
	case reflect.Slice:
		if v.Cap() > 0 {
			see(v.Pointer(), v.Pointer()+uintptr(v.Cap())*v.Type().Elem().Size())
		}
		for i := range v.Len() {
			memory(v.Index(i), see)
		}
	}
}

// P4: no two lists of what is read share memory, also behind their lengths.
func TestReadIsNew(t *testing.T) {
	m := maker{rand.New(rand.NewSource(15))}
	for range 200 {
		s, err := Text(m.program())
		if err != nil {
			continue
		}
		a, _ := Read(s)
		b, _ := Read(s)
		type piece struct{ from, to uintptr }
		var l []piece
		see := func(from, to uintptr) { l = append(l, piece{from, to}) }
		memory(reflect.ValueOf(a), see)
		memory(reflect.ValueOf(b), see)
		slices.SortFunc(l, func(a, b piece) int { return int(a.from) - int(b.from) })
		for i := 1; i < len(l); i++ {
			if l[i].from < l[i-1].to {
				t.Fatalf("%q: two lists share memory", s)
			}
		}
	}
}

// P3, P4: what is written is only read, and nothing behind the lengths of its lists is.
func TestTextOnlyReads(t *testing.T) {
	wrong := Stmt{Kind: "?", Name: "?", Args: []Expr{{Op: "?"}}}
	args := []Expr{op("+", num(1), named("x")), {Op: "?"}, {Op: "?"}}
	body := []Stmt{{Kind: "set", Name: "x", Args: args[:1]}, wrong, wrong}
	tests := []Test{{num(1), "<", num(2)}, {}, {}}
	conds := Cond{tests[:1], {{}}, nil}
	vars := []string{"x", "?", "?"}
	p := Program{
		Vars: vars[:1], Arrays: []Array{{"a", 1}, {"?", -1}}[:1],
		Procs: []Proc{{Name: "f", Params: vars[:1], Body: body[:1], Return: at("a", num(0))}, {}}[:1],
		Main:  []Stmt{{Kind: "if", Cond: conds[:1], Body: body[:1], Else: body[:1]}, wrong}[:1],
	}
	before := fmt.Sprintf("%+v %+v %+v %+v %+v %+v", p, args, body, tests, conds, vars)
	want := "var x;\narray a[1];\nproc f(x) {\n  x = 1 + x;\n  return a[0];\n}\nmain {\n  if 1 < 2 {\n    x = 1 + x;\n  } else {\n    x = 1 + x;\n  }\n}\n"
	if s, err := Text(p); s != want || err != nil {
		t.Errorf("%q %v", s, err)
	}
	if after := fmt.Sprintf("%+v %+v %+v %+v %+v %+v", p, args, body, tests, conds, vars); after != before {
		t.Error(after)
	}
}

// P2: the same is answered, also side by side.
func TestSideBySide(t *testing.T) {
	m := maker{rand.New(rand.NewSource(16))}
	var programs []Program
	var texts []string
	for range 50 {
		p := m.program()
		s, _ := Text(p)
		programs, texts = append(programs, p), append(texts, s)
	}
	var all sync.WaitGroup
	for range 8 {
		all.Go(func() {
			for i, p := range programs {
				if s, _ := Text(p); s != texts[i] {
					t.Errorf("%q, want %q", s, texts[i])
				}
				if back, err := Read(texts[i]); err == nil && told(back) != told(p) {
					t.Errorf("%v, want %v", told(back), told(p))
				}
			}
		})
	}
	all.Wait()
}

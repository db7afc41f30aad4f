package compile

import (
	"fmt"
	"math/rand"
	"slices"
	"strconv"
	"strings"
	"testing"

	"raycone/api"
	"raycone/check"
	"raycone/lang"
	"raycone/machine"
)

// read a program of a test.
func read(t *testing.T, s string) lang.Program {
	t.Helper()
	p, err := lang.Read(s)
	if err != nil {
		t.Fatalf("%q: %v", s, err)
	}
	return p
}

// compiled program that has no error.
func compiled(t *testing.T, p lang.Program) Code {
	t.Helper()
	c, err := Compile(p)
	if err != nil {
		t.Fatalf("%+v: %v", p, err)
	}
	return c
}

// said code: its ops, as ops reads them.
func said(c Code) string {
	var l []string
	for _, o := range c.Ops {
		s := o.Name
		if o.N != 0 || strings.Contains(" push load store get put jump unless within ", " "+s+" ") {
			s += " " + strconv.Itoa(o.N)
		}
		l = append(l, s)
	}
	return strings.Join(l, ", ")
}

// ownEnd of code: what is told of a run of the program itself, but steps.
func ownEnd(p lang.Program, e machine.End) string {
	if len(e.Vars) < len(p.Vars) {
		return "too few variables"
	}
	return fmt.Sprint(e.Kind, e.Vars[:len(p.Vars)], e.Arrays)
}

// sameEnd: code ends as the machine does; where neither is tired its kind is told.
func sameEnd(t *testing.T, p lang.Program, c Code, input []int) string {
	t.Helper()
	want, err := machine.Run(p, input, 300)
	if err != nil {
		t.Fatal(err)
	}
	got, err := Run(c, input, 100000)
	if err != nil {
		text, _ := lang.Text(p)
		t.Fatalf("%s%v %s: %v", text, input, said(c), err)
	}
	if want.Kind == "tired" || got.Kind == "tired" {
		return "tired"
	}
	if ownEnd(p, got) != ownEnd(p, want) {
		text, _ := lang.Text(p)
		t.Fatalf("%s%v %s: %v, want %v", text, input, said(c), got, want)
	}
	return want.Kind
}

// maker of texts at random.
type maker struct {
	*rand.Rand
	vars  []string
	procs []string // names that may be called, each with as many blanks behind it as it has parameters
}

func (m maker) one(l ...string) string { return l[m.Intn(len(l))] }

func (m maker) term(deep int) string {
	n := m.Intn(12)
	switch {
	case deep <= 0 && n < 5, n < 2:
		return m.one(m.vars...)
	case deep <= 0 && n < 11, n < 4:
		return strconv.Itoa(m.Intn(5))
	case deep <= 0:
		return m.one("1099511627776", "1099511627775", "1048576", "700000", "97")
	case n < 6:
		return "a[" + m.one(strconv.Itoa(m.Intn(3)), "("+m.term(deep-1)+")%4", m.one(m.vars...)) + "]"
	case n < 7:
		return "-" + m.one(m.vars...)
	}
	return "(" + m.term(deep-1) + m.one("+", "+", "-", "-", "*", "*", "/", "%") + m.term(deep-1) + ")"
}

func (m maker) rows() string {
	var rows []string
	for range 1 + m.Intn(2) {
		var tests []string
		for range 1 + m.Intn(2) {
			tests = append(tests, m.term(1)+m.one("<", "<=", "==", "!=", ">", ">=")+m.term(1))
		}
		rows = append(rows, m.one(strings.Join(tests, " and "), strings.Join(tests, " and "), tests[0], tests[0], "true"))
	}
	return m.one(strings.Join(rows, " or "), rows[0])
}

func (m maker) cond() string {
	if m.Intn(9) == 0 {
		return "false"
	}
	return m.rows()
}

func (m maker) block(many, deep int) string {
	var b strings.Builder
	for range 1 + m.Intn(many) {
		b.WriteString(m.statement(deep))
	}
	return b.String()
}

func (m maker) statement(deep int) string {
	n := m.Intn(20)
	switch {
	case n < 4 && len(m.procs) > 0:
		proc := m.one(m.procs...)
		var args []string
		for range strings.Count(proc, " ") {
			args = append(args, m.term(1))
		}
		return m.one(m.vars...) + "=call " + strings.TrimSpace(proc) + "(" + strings.Join(args, ",") + ");"
	case n < 6:
		return "a[" + m.one("0", "1", "2", m.one(m.vars...)) + "]=" + m.term(2) + ";"
	case n < 7:
		return "read " + m.one(m.vars...) + ";"
	case n < 8:
		return m.one("assert ", "assume ") + m.one(m.rows()+" or "+m.term(0)+"<9", m.cond()) + ";"
	case n < 11 && deep > 0:
		return "if " + m.cond() + "{" + m.block(2, deep-1) + "}" + m.one("", "else{"+m.block(2, deep-1)+"}")
	case n < 14 && deep > 0:
		x := m.one(m.vars...)
		return m.one("while "+m.cond()+"{"+m.block(2, deep-1)+"}", x+"=0;while "+x+"<"+strconv.Itoa(m.Intn(5))+"{"+m.block(2, deep-1)+x+"="+x+"+1;}")
	}
	return m.one(m.vars...) + "=" + m.term(2) + ";"
}

// program at random, with x, y and z, a of 3 places, and procedures, each of which may call those ahead.
func (m maker) program() string {
	s := "var x;var y;var z;array a[3];"
	all := []string{"x", "y", "z"}
	for i := range m.Intn(4) {
		in := m
		params := [][]string{{"u"}, {}, {"v", "w"}}[i]
		in.vars = slices.Concat(all, params, params)
		name := []string{"f", "g", "h"}[i]
		s += "proc " + name + "(" + strings.Join(params, ",") + "){" + in.block(3, 2) + "return " + in.term(2) + ";}"
		m.procs = append(slices.Clone(m.procs), name+strings.Repeat(" ", len(params)))
	}
	m.vars = all
	return s + "main{" + m.block(6, 3) + "}"
}

// numbers to be read, at random.
func (m maker) numbers() []int {
	l := make([]int, m.Intn(8))
	for i := range l {
		l[i] = []int{m.Intn(7) - 3, m.Intn(7) - 3, api.MaxValue, -api.MaxValue, m.Intn(2 << 21)}[m.Intn(5)]
	}
	return l
}

// programs at random that are right, and can be inlined, each with numbers to be read.
func programs(t *testing.T, seed int64, many int, see func(p lang.Program, input []int, r *rand.Rand)) {
	t.Helper()
	r := rand.New(rand.NewSource(seed))
	for range many {
		m := maker{Rand: r}
		p := read(t, m.program())
		if _, err := check.Inline(p); err == nil {
			see(p, m.numbers(), r)
		}
	}
}

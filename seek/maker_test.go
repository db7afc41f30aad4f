package seek

import (
	"fmt"
	"math/rand"
	"slices"
	"strconv"
	"strings"
	"testing"

	"raycone/check"
	"raycone/lang"
)

// read a program of a test.
func read(t *testing.T, s string) lang.Program {
	t.Helper()
	p, err := lang.Read(s)
	if err != nil {
		t.Fatalf("%q: %v", s, err)
	}
	return p
}

// told of anything: all its fields.
func told(v any) string { return fmt.Sprintf("%+v", v) }

// maker of texts at random.
type maker struct {
	*rand.Rand
	vars  []string
	procs []string // names that may be called, each with as many blanks behind it as it has parameters
}

func (m maker) one(l ...string) string { return l[m.Intn(len(l))] }

func (m maker) term(deep int) string {
	n := m.Intn(12)
	switch {
	case deep <= 0 && n < 7, n < 4:
		return m.one(m.vars...)
	case deep <= 0 || n < 6:
		return strconv.Itoa(m.Intn(5))
	case n < 7:
		return "a[" + m.one(strconv.Itoa(m.Intn(3)), "("+m.term(deep-1)+")%4", m.one(m.vars...)) + "]"
	case n < 8:
		return "-" + m.one(m.vars...)
	}
	return "(" + m.term(deep-1) + m.one("+", "+", "-", "-", "*", "/", "%") + m.term(deep-1) + ")"
}

func (m maker) rows() string {
	var rows []string
	for range 1 + m.Intn(2) {
		var tests []string
		for range 1 + m.Intn(2) {
			tests = append(tests, m.term(1)+m.one("<", "<=", "==", "!=", ">", ">=")+m.term(1))
		}
		rows = append(rows, m.one(strings.Join(tests, " and "), strings.Join(tests, " and "), tests[0], tests[0], "true"))
	}
	return m.one(strings.Join(rows, " or "), rows[0])
}

func (m maker) cond() string {
	if m.Intn(20) == 0 {
		return "false"
	}
	return m.rows()
}

func (m maker) block(many, deep int) string {
	var b strings.Builder
	for range 1 + m.Intn(many) {
		b.WriteString(m.statement(deep))
	}
	return b.String()
}

func (m maker) statement(deep int) string {
	n := m.Intn(20)
	switch {
	case n < 2 && len(m.procs) > 0:
		proc := m.one(m.procs...)
		var args []string
		for range strings.Count(proc, " ") {
			args = append(args, m.term(1))
		}
		return m.one(m.vars...) + "=call " + strings.TrimSpace(proc) + "(" + strings.Join(args, ",") + ");"
	case n < 4:
		return "a[" + m.one("0", "1", "2", m.one(m.vars...)) + "]=" + m.term(2) + ";"
	case n < 7:
		return "read " + m.one(m.vars...) + ";"
	case n < 10:
		return m.one("assert ", "assert ", "assume ") + m.one(m.rows()+" or "+m.term(0)+"<3", m.cond()) + ";"
	case n < 13 && deep > 0:
		return "if " + m.cond() + "{" + m.block(2, deep-1) + "}" + m.one("", "else{"+m.block(2, deep-1)+"}")
	case n < 15 && deep > 0:
		x := m.one(m.vars...)
		return m.one("while "+m.cond()+"{"+m.block(2, deep-1)+"}", x+"=0;while "+x+"<"+strconv.Itoa(m.Intn(5))+"{"+m.block(2, deep-1)+x+"="+x+"+1;}")
	}
	return m.one(m.vars...) + "=" + m.term(2) + ";"
}

// program at random, with w, x, y and z, a of 3 places, and procedures, each of which may call those ahead.
func (m maker) program() string {
	s := "var w;var x;var y;var z;array a[3];"
	all := []string{"w", "x", "y", "z"}
	for i := range m.Intn(3) {
		in := m
		params := [][]string{{"u"}, {"v", "t"}}[i]
		in.vars = slices.Concat(all, params, params)
		name := []string{"f", "g"}[i]
		s += "proc " + name + "(" + strings.Join(params, ",") + "){" + in.block(3, 1) + "return " + in.term(2) + ";}"
		m.procs = append(slices.Clone(m.procs), name+strings.Repeat(" ", len(params)))
	}
	m.vars = all
	s += "main{"
	for range m.Intn(4) {
		s += "read " + m.one(all...) + ";"
	}
	return s + m.block(7, 2) + "}"
}

// programs at random that are right, and can be inlined.
func programs(t *testing.T, seed int64, many int, see func(p lang.Program, r *rand.Rand)) {
	t.Helper()
	r := rand.New(rand.NewSource(seed))
	for range many {
		p := read(t, maker{Rand: r}.program())
		if _, err := check.Inline(p); err == nil {
			see(p, r)
		}
	}
}

// inputsOf up to 3 numbers up to a size, in the order of the document.
func inputsOf(size int) [][]int {
	l := []int{0, 1, -1, 2, -2, 3, -3, 4, -4}[:2*size+1]
	all := [][]int{{}}
	for _, a := range l {
		all = append(all, []int{a})
	}
	for _, a := range l {
		for _, b := range l {
			all = append(all, []int{a, b})
		}
	}
	for _, a := range l {
		for _, b := range l {
			for _, c := range l {
				all = append(all, []int{a, b, c})
			}
		}
	}
	return all
}

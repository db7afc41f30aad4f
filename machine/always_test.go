package machine

import (
	"fmt"
	"math/rand"
	"reflect"
	"slices"
	"strconv"
	"strings"
	"sync"
	"testing"

	"raycone/api"
	"raycone/check"
	"raycone/lang"
)

// maker of texts at random.
type maker struct {
	*rand.Rand
	vars  []string
	procs []string // names that may be called, each with as many blanks behind it as it has parameters
}

func (m maker) one(l ...string) string { return l[m.Intn(len(l))] }

func (m maker) term(deep int) string {
	n := m.Intn(12)
	switch {
	case deep <= 0 && n < 5, n < 2:
		return m.one(m.vars...)
	case deep <= 0 && n < 11, n < 4:
		return strconv.Itoa(m.Intn(5))
	case deep <= 0:
		return m.one("1099511627776", "1099511627775", "1048576", "700000", "97")
	case n < 6:
		return "a[" + m.one(strconv.Itoa(m.Intn(3)), "("+m.term(deep-1)+")%4", m.one(m.vars...)) + "]"
	case n < 7:
		return "-" + m.one(m.vars...)
	}
	return "(" + m.term(deep-1) + m.one("+", "+", "-", "-", "*", "*", "/", "%") + m.term(deep-1) + ")"
}

func (m maker) rows() string {
	var rows []string
	for range 1 + m.Intn(2) {
		var tests []string
		for range 1 + m.Intn(2) {
			tests = append(tests, m.term(1)+m.one("<", "<=", "==", "!=", ">", ">=")+m.term(1))
		}
		rows = append(rows, m.one(strings.Join(tests, " and "), strings.Join(tests, " and "), tests[0], tests[0], "true"))
	}
	return m.one(strings.Join(rows, " or "), rows[0])
}

func (m maker) cond() string {
	if m.Intn(9) == 0 {
		return "false"
	}
	return m.rows()
}

func (m maker) block(many, deep int) string {
	var b strings.Builder
	for range 1 + m.Intn(many) {
		b.WriteString(m.statement(deep))
	}
	return b.String()
}

func (m maker) statement(deep int) string {
	n := m.Intn(20)
	switch {
	case n < 4 && len(m.procs) > 0:
		proc := m.one(m.procs...)
		var args []string
		for range strings.Count(proc, " ") {
			args = append(args, m.term(1))
		}
		return m.one(m.vars...) + "=call " + strings.TrimSpace(proc) + "(" + strings.Join(args, ",") + ");"
	case n < 6:
		return "a[" + m.one("0", "1", "2", m.one(m.vars...)) + "]=" + m.term(2) + ";"
	case n < 7:
		return "read " + m.one(m.vars...) + ";"
	case n < 8:
		return m.one("assert ", "assume ") + m.one(m.rows()+" or "+m.term(0)+"<9", m.cond()) + ";"
	case n < 11 && deep > 0:
		return "if " + m.cond() + "{" + m.block(2, deep-1) + "}" + m.one("", "else{"+m.block(2, deep-1)+"}")
	case n < 14 && deep > 0:
		x := m.one(m.vars...)
		return m.one("while "+m.cond()+"{"+m.block(2, deep-1)+"}", x+"=0;while "+x+"<"+strconv.Itoa(m.Intn(5))+"{"+m.block(2, deep-1)+x+"="+x+"+1;}")
	}
	return m.one(m.vars...) + "=" + m.term(2) + ";"
}

// program at random, with x, y and z, a of 3 places, and procedures, each of which may call those ahead.
func (m maker) program() string {
	s := "var x;var y;var z;array a[3];"
	all := []string{"x", "y", "z"}
	for i := range m.Intn(4) {
		in := m
		params := [][]string{{"u"}, {}, {"v", "w"}}[i]
		in.vars = slices.Concat(all, params, params)
		name := []string{"f", "g", "h"}[i]
		s += "proc " + name + "(" + strings.Join(params, ",") + "){" + in.block(3, 2) + "return " + in.term(2) + ";}"
		m.procs = append(slices.Clone(m.procs), name+strings.Repeat(" ", len(params)))
	}
	m.vars = all
	return s + "main{" + m.block(6, 3) + "}"
}

// numbers to be read, at random.
func (m maker) numbers() []int {
	l := make([]int, m.Intn(8))
	for i := range l {
		l[i] = []int{m.Intn(7) - 3, m.Intn(7) - 3, api.MaxValue, -api.MaxValue, m.Intn(2 << 21)}[m.Intn(5)]
	}
	return l
}

// programs at random that are right, each with numbers to be read.
func programs(t *testing.T, seed int64, many int, see func(p lang.Program, input []int, r *rand.Rand)) {
	t.Helper()
	r := rand.New(rand.NewSource(seed))
	for range many {
		m := maker{Rand: r}
		p := read(t, m.program())
		if check.Check(p) == nil {
			see(p, m.numbers(), r)
		}
	}
}

// P120 to P122: programs at random, against another machine that goes by their words.
func TestRunRandom(t *testing.T) {
	seen := map[string]int{}
	programs(t, 1, 10000, func(p lang.Program, input []int, r *rand.Rand) {
		fuel := []int{r.Intn(20), r.Intn(300), 300}[r.Intn(3)]
		got, want := ran(t, p, input, fuel), walked(t, p, input, fuel)
		if told(got) != told(want) {
			text, _ := lang.Text(p)
			t.Fatalf("%s%v %d: %v, want %v", text, input, fuel, got, want)
		}
		seen[got.Kind]++
	})
	for _, kind := range []string{"done", "stuck", "failed", "wrong", "tired"} {
		if seen[kind] < 150 {
			t.Errorf("%s: %d", kind, seen[kind])
		}
	}
}

// P123: what is inlined ends as it did, where fuel is enough for both.
func TestInlinedEndsSo(t *testing.T) {
	seen := map[string]int{}
	programs(t, 2, 8000, func(p lang.Program, input []int, _ *rand.Rand) {
		q, err := check.Inline(p)
		if len(p.Procs) == 0 || err != nil || check.Check(q) != nil {
			return
		}
		a, b := ran(t, p, input, 400), ran(t, q, input, 2000)
		if a.Kind == "tired" || b.Kind == "tired" {
			return
		}
		if a.Kind != b.Kind || !slices.Equal(a.Vars, b.Vars[:len(a.Vars)]) || told(a.Arrays) != told(b.Arrays) {
			text, _ := lang.Text(p)
			t.Fatalf("%s%v: %v, inlined %v", text, input, a, b)
		}
		seen[a.Kind]++
	})
	for _, kind := range []string{"done", "stuck", "failed", "wrong"} {
		if seen[kind] < 100 {
			t.Errorf("%s: %d", kind, seen[kind])
		}
	}
}

// P120, P123: with more fuel a run that is not tired is the same; with less than its steps it is tired, with just them it is not.
func TestMoreFuel(t *testing.T) {
	programs(t, 3, 2000, func(p lang.Program, input []int, r *rand.Rand) {
		e := ran(t, p, input, 200)
		for _, fuel := range []int{e.Steps, e.Steps + 1, 199, 201, 5000, api.MaxFuel} {
			if e.Kind != "tired" && fuel >= e.Steps && told(ran(t, p, input, fuel)) != told(e) {
				t.Fatalf("%s %v: %v with %d", told(p), input, e, fuel)
			}
		}
		if e.Kind == "tired" && e.Steps != 200 {
			t.Fatalf("%s: %v", told(p), e)
		}
		if e.Steps > 0 {
			fuel := r.Intn(e.Steps)
			if less := ran(t, p, input, fuel); less.Kind != "tired" || less.Steps != fuel {
				t.Fatalf("%s: %v with %d, %v with 200", told(p), less, fuel, e)
			}
		}
	})
}

// P122: whatever a procedure does to its parameters, nothing of it is told.
func TestParametersAreNotTold(t *testing.T) {
	programs(t, 4, 500, func(p lang.Program, input []int, _ *rand.Rand) {
		e := ran(t, p, input, 300)
		if len(e.Vars) != 3 || len(e.Arrays) != 1 || len(e.Arrays[0]) != 3 {
			t.Fatal(e)
		}
	})
}

// P4: what is handed over is only read, and what is answered is new memory: no two lists share any, and nobody sees what is written into it.
func TestEndIsNew(t *testing.T) {
	p := read(t, "var x;var y;array a[2];array b[3];main{read x;a[1]=x;b[2]=x+1;}")
	input := []int{5, 6}
	before := told(p)
	want := "{Kind:done Steps:3 Vars:[5 0] Arrays:[[0 5] [0 0 6]]}"
	for range 3 {
		e := ran(t, p, input, 9)
		if told(e) != want || told(p) != before || !slices.Equal(input, []int{5, 6}) {
			t.Fatal(e, p, input)
		}
		lists := append(slices.Clone(e.Arrays), e.Vars)
		for i, l := range lists {
			for j := range l[:cap(l)] {
				l[:cap(l)][j] = 100*i + j + 1
			}
		}
		for i, l := range lists {
			if l[0] != 100*i+1 {
				t.Fatal(lists)
			}
		}
		e.Arrays[0], e.Arrays[1] = nil, nil
	}
	if told(p) != before || !slices.Equal(input, []int{5, 6}) {
		t.Error(p, input)
	}
}

// P3: nothing behind the lengths of lists is read, or written.
func TestBehindLengths(t *testing.T) {
	one := lang.Expr{Op: "num", N: 1}
	bad := lang.Stmt{Kind: "assert"}
	vars := []string{"x", "y"}
	arrays := []lang.Array{{Name: "a", Size: 1}, {Name: "b", Size: 2}}
	params := []string{"u", "v"}
	args := []lang.Expr{one, {Op: "?"}}
	body := []lang.Stmt{{Kind: "read", Name: "x"}, bad}
	procs := []lang.Proc{{Name: "f", Params: params[:1], Body: body[:1], Return: lang.Expr{Op: "var", Name: "u"}}, {}}
	tests := []lang.Test{{A: one, Rel: "==", B: one}, {A: one, Rel: "<", B: one}}
	rows := lang.Cond{tests[:1], nil}
	main := []lang.Stmt{{Kind: "assume", Cond: rows[:1]}, {Kind: "call", Name: "x", Proc: "f", Args: args[:1]}, {Kind: "assert", Cond: rows[:0]}, bad}
	input := []int{7, 8, 9}
	p := lang.Program{Vars: vars[:1], Arrays: arrays[:1], Procs: procs[:1], Main: main[:3]}
	before := fmt.Sprint(vars, arrays, params, args, body, procs, tests, rows, main, input)
	if got := fmt.Sprint(ran(t, p, input[:1], 9)); got != "{failed 4 [1] [[0]]}" {
		t.Error(got)
	}
	if got := fmt.Sprint(ran(t, p, input[:0], 9)); got != "{wrong 3 [0] [[0]]}" {
		t.Error(got)
	}
	if after := fmt.Sprint(vars, arrays, params, args, body, procs, tests, rows, main, input); after != before {
		t.Error(after)
	}
}

// P3: a nil list and an empty one are one thing.
func TestEmptyLists(t *testing.T) {
	p := lang.Program{Main: []lang.Stmt{{Kind: "if", Cond: lang.Cond{nil}}, {Kind: "assert", Cond: nil}}}
	q := lang.Program{Vars: []string{}, Arrays: []lang.Array{}, Procs: []lang.Proc{}, Main: []lang.Stmt{{Kind: "if", Args: []lang.Expr{}, Cond: lang.Cond{{}}, Body: []lang.Stmt{}, Else: []lang.Stmt{}}, {Kind: "assert", Cond: lang.Cond{}}}}
	a, b := ran(t, p, nil, 9), ran(t, q, []int{}, 9)
	if fmt.Sprint(a) != "{failed 2 [] []}" || fmt.Sprint(b) != fmt.Sprint(a) {
		t.Error(a, b)
	}
}

// P2: the same is answered, also side by side.
func TestSideBySide(t *testing.T) {
	type one struct {
		p     lang.Program
		input []int
		want  End
	}
	var all []one
	programs(t, 5, 100, func(p lang.Program, input []int, _ *rand.Rand) {
		all = append(all, one{p, input, ran(t, p, input, 300)})
	})
	var wait sync.WaitGroup
	for range 8 {
		wait.Go(func() {
			for _, o := range all {
				if got, err := Run(o.p, o.input, 300); !reflect.DeepEqual(got, o.want) || err != nil {
					t.Errorf("%v %v, want %v", got, err, o.want)
				}
			}
		})
	}
	wait.Wait()
}

// P1: every run ends, also where much is to be worked out in each step, or stands deep.
func TestEnds(t *testing.T) {
	many := strings.Repeat
	for s, want := range map[string]string{
		"var x;main{while x==0" + many(" and x==0", 340) + "{}}":                      "tired",
		"var x;main{while x==1" + many(" or x==1", 340) + " or true{}}":               "tired",
		"var x;main{while true{x=x" + many("+x", 900) + ";}}":                         "tired",
		"var x;main{" + many("while true{", 12) + many("}", 12) + "}":                 "tired",
		"var x;main{" + many("if true{", 11) + "while true{}" + many("}", 11) + "}":   "tired",
		"var x;main{while x==" + many("-", 10) + "(x" + many("*1", 900) + "){}}":      "tired",
		"array a[1];main{while a" + many("[a", 10) + "[0]" + many("]", 10) + "==0{}}": "tired",
		"var x;proc f(u){while true{u=u+1;}return u;}main{while true{x=call f(x);}}":  "tired",
		"var x;main{x=1;while true{x=x*2;}}":                                          "wrong",
		"var x;main{x=1;while true{x=x*-2;}}":                                         "wrong",
		"var x;main{while true{x=x-1099511627;}}":                                     "wrong",
		"var x;proc f(){return x;}proc g(){" + many("x=call f();", 40) + "return x;}proc h(){" + many("x=call g();", 40) + "return x;}proc i(){" + many("x=call h();", 40) + "return x;}main{" + many("x=call i();", 40) + "}": "tired",
	} {
		if got := ran(t, read(t, s), nil, api.MaxFuel); got.Kind != want {
			t.Errorf("%.100q: %v, want %s", s, got, want)
		}
	}
}

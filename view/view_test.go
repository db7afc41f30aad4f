package view

import (
	"fmt"
	"math/rand"
	"slices"
	"strings"
	"testing"

	"raycone/api"
	"raycone/exact"
	"raycone/flow"
	"raycone/lang"
	"raycone/poly"
)

// graph of a main over x, y and z.
func graph(t *testing.T, main string) flow.Graph {
	t.Helper()
	p, err := lang.Read("var x;var y;var z;array a[2];main{" + main + "}")
	if err != nil {
		t.Fatal(main, err)
	}
	g, err := flow.Build(p)
	if err != nil {
		t.Fatal(main, err)
	}
	return g
}

// act of a statement.
func act(t *testing.T, s string) flow.Act { return graph(t, s).Edges[0].Act }

// of rows: x and z, the chosen ones, are x0 and x1.
func of(s string) exact.Poly {
	if s != "" {
		s = strings.ReplaceAll(s, ", ", "\n") + "\n"
	}
	p, err := poly.Read(2, s)
	if err != nil {
		panic(s)
	}
	return exact.Of(p)
}

func same(p, q exact.Poly) bool { return p.Within(q) && q.Within(p) }

func said(p exact.Poly) string {
	rows, err := p.Rows()
	return fmt.Sprint(rows.Rows, err)
}

// What acts make, and what they are made of.
func TestActs(t *testing.T) {
	v := Of(graph(t, ""), []int{0, 2})
	const some = "x0 >= 1, -x0 >= -4, x0 - x1 = 0"
	for _, c := range []struct{ act, after, before string }{
		{"while true{}", some, some},
		{"y=x;", some, some},
		{"read y;", some, some},
		{"a[0]=x;", some, some},
		{"read x;", "x1 >= 1, -x1 >= -4", "x1 >= 1, -x1 >= -4"},
		{"z=y;", "x0 >= 1, -x0 >= -4", "x0 >= 1, -x0 >= -4"},
		{"x=x+1;", "x0 >= 2, -x0 >= -5, x0 - x1 = 1", "x0 >= 0, -x0 >= -3, x0 - x1 = -1"},
		{"x=2;", "x0 = 2, x1 >= 1, -x1 >= -4", "x1 = 2"},
		{"x=5;", "x0 = 5, x1 >= 1, -x1 >= -4", "0 >= 1"},
		{"z=-2*x;", "x0 >= 1, -x0 >= -4, 2 x0 + x1 = 0", "0 >= 1"},
		{"z=4-x;", "x0 >= 1, -x0 >= -4, x0 + x1 = 4", "x0 = 2"},
		{"assume x<3;", "x0 >= 1, -x0 >= -2, x0 - x1 = 0", "x0 >= 1, -x0 >= -2, x0 - x1 = 0"},
		{"assume x!=3;", some, some},
		{"assume x>y;", some, some},
	} {
		a := act(t, c.act)
		if p := v.After(of(some), a); !same(p, of(c.after)) {
			t.Error(c.act, "after", said(p))
		}
		if p := v.Before(of(some), a); !same(p, of(c.before)) {
			t.Error(c.act, "before", said(p))
		}
	}
	if v.Dim() != 2 || !same(v.Zeros(), of("x0 = 0, x1 = 0")) || !v.Nothing().Empty() || !same(v.Everything(), of("")) {
		t.Error(v.Dim(), said(v.Zeros()), said(v.Nothing()), said(v.Everything()))
	}
	none := Of(graph(t, ""), nil)
	if none.Dim() != 0 || none.Zeros().Empty() || !none.Nothing().Empty() || none.Everything().Empty() {
		t.Error(none)
	}
}

// Rounds: acts change what is behind, and ask of it alone.
func TestRounds(t *testing.T) {
	g := graph(t, "")
	v := Rounds(g, []int{2})
	for _, c := range []struct{ act, after string }{
		{"while true{}", "x0 >= 1, x1 >= 5"},
		{"z=7;", "x0 >= 1, x1 = 7"},
		{"z=z+1;", "x0 >= 1, x1 >= 6"},
		{"read z;", "x0 >= 1"},
		{"read x;", "x0 >= 1, x1 >= 5"},
		{"a[0]=1;", "x0 >= 1, x1 >= 5"},
		{"assume z<9;", "x0 >= 1, x1 >= 5, -x1 >= -8"},
		{"assume x<9;", "x0 >= 1, x1 >= 5"},
	} {
		if p := v.After(of("x0 >= 1, x1 >= 5"), act(t, c.act)); !same(p, of(c.after)) {
			t.Error(c.act, said(p))
		}
	}
	if v.Dim() != 2 || Rounds(g, []int{0, 2}).Dim() != 4 {
		t.Error(v.Dim())
	}
}

// What acts make of p lies in q just if p lies in that of which they make q, if they make something of all.
func TestAfterAndBefore(t *testing.T) {
	v, r := Of(graph(t, ""), []int{0, 2}), rand.New(rand.NewSource(1))
	some := func() exact.Poly {
		p := api.Poly{Dim: 2}
		for range r.Intn(4) {
			p.Rows = append(p.Rows, api.Row{A: []int{r.Intn(5) - 2, r.Intn(5) - 2}, B: r.Intn(7) - 5})
		}
		return exact.Of(p)
	}
	ins := 0
	for _, text := range []string{"while true{}", "x=x+1;", "x=3*z-x;", "z=x;", "z=2;", "y=1;", "x=0*x;"} {
		a := act(t, text)
		for range 500 {
			p, q := some(), some()
			in := v.After(p, a).Within(q)
			if in != p.Within(v.Before(q, a)) {
				t.Fatal(text, said(p), said(q), in)
			}
			if in {
				ins++
			}
		}
	}
	if ins < 300 {
		t.Error(ins)
	}
}

// An act is stuck where sums that must differ are the same at each point.
func TestStuck(t *testing.T) {
	v := Of(graph(t, ""), []int{0, 2})
	for _, c := range []struct {
		p, act string
		want   bool
	}{
		{"x0 = 3", "assume x!=3;", true},
		{"x0 = 3", "assume x+x!=6 and x<y;", true},
		{"x0 - x1 = 3", "assume x<0 and z+3!=x;", true},
		{"x0 - x1 = 3", "assume z!=x;", false},
		{"x0 >= 3", "assume x!=3;", false},
		{"x0 = 3", "assume x==3;", false},
		{"x0 = 3", "assume x<3;", false},
		{"x0 = 3", "assume x*x!=9;", false},
		{"x0 = 3", "assume y!=3;", false},
		{"0 >= 1", "assume x!=3;", true},
		{"0 >= 1", "x=3;", false},
	} {
		if got := v.Stuck(of(c.p), act(t, c.act)); got != c.want {
			t.Error(c, got)
		}
	}
}

// Stops: both ways of signs, and of tests as they are and a little less; each once, and no more than so many.
func TestStops(t *testing.T) {
	v := Of(graph(t, ""), []int{0, 2})
	say := func(main string) string {
		var l []string
		for _, r := range v.Stops(graph(t, main)) {
			n, _ := r.Ints()
			l = append(l, fmt.Sprint(n))
		}
		return strings.Join(l, " ")
	}
	const signs = "[1 0 0] [0 1 0] [-1 0 0] [0 -1 0]"
	for main, more := range map[string]string{
		"x=7;":                "",
		"assume x>=0;":        "",
		"assume x>=2;":        " [1 0 -2]",
		"assume x>2;":         " [1 0 -2] [1 0 -3]",
		"assume x==2*z;":      " [1 -2 0] [-1 2 0]",
		"assume x!=2;":        "",
		"assume x<y;":         "",
		"assume x<1 and z<1;": " [-1 0 1] [0 -1 1]",
	} {
		if got := say(main); got != signs+more {
			t.Error(main, got)
		}
	}
	var many []string
	for n := range 60 {
		many = append(many, fmt.Sprintf("x>=%d", n+1))
	}
	if n := len(v.Stops(graph(t, "assume "+strings.Join(many, " and ")+";"))); n != 2*api.MaxRows {
		t.Error(n)
	}
}

// What is wrong, and which of it is told first.
func TestWrong(t *testing.T) {
	g := graph(t, "x=1;")
	good, far := api.Poly{Dim: 2}, api.Poly{Dim: 2, Rows: []api.Row{{A: []int{1, 0}, B: api.MaxEntry + 1}}}
	for i, c := range []struct {
		g           flow.Graph
		choice      []int
		l           []api.Poly
		want, table error
	}{
		{g, []int{0, 2}, []api.Poly{good, good}, nil, nil},
		{g, []int{0, 2}, []api.Poly{good}, nil, api.ErrShape},
		{g, []int{0, 2}, nil, nil, api.ErrShape},
		{g, []int{0, 2}, []api.Poly{good, good, good}, nil, api.ErrShape},
		{flow.Graph{}, nil, []api.Poly{far}, api.ErrShape, api.ErrShape},
		{g, []int{2, 0}, []api.Poly{good, far}, api.ErrBound, api.ErrBound},
		{g, []int{0, 2}, []api.Poly{{Dim: 1}, far}, api.ErrBound, api.ErrBound},
		{g, []int{0, 2}, []api.Poly{{Dim: 1}, good}, api.ErrShape, api.ErrShape},
		{g, []int{0, 3}, []api.Poly{good, good}, api.ErrShape, api.ErrShape},
		{g, []int{0}, []api.Poly{good, good}, api.ErrShape, api.ErrShape},
	} {
		if err := Wrong(c.g, c.choice, c.l...); err != c.want {
			t.Error(i, err)
		}
		if err := WrongTable(c.g, c.choice, c.l); err != c.table {
			t.Error(i, "table", err)
		}
	}
	if !slices.Equal(g.Vars, []string{"x", "y", "z"}) {
		t.Error(g.Vars)
	}
}

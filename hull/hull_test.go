package hull

import (
	"slices"
	"strconv"
	"strings"
	"testing"

	"raycone/api"
	"raycone/flow"
	"raycone/lang"
	"raycone/poly"
)

const declared = "var x;var y;var z;var w;var v;array a[3];array b[1];"

// built of a main that has a graph.
func built(t *testing.T, main string) flow.Graph {
	t.Helper()
	p, err := lang.Read(declared + "main{" + main + "}")
	if err != nil {
		t.Fatalf("%.300q: %v", main, err)
	}
	g, err := flow.Build(p)
	if err != nil {
		t.Fatalf("%.300q: %v", main, err)
	}
	return g
}

// names of the tests' programs, without edges.
func names() flow.Graph {
	return flow.Graph{Vars: []string{"x", "y", "z", "w", "v"}, Arrays: []lang.Array{{Name: "a", Size: 3}, {Name: "b", Size: 1}}, Points: 1}
}

// actOf a statement: of assume a test, of assert a fail, of an endless loop a skip.
func actOf(t *testing.T, s string) flow.Act {
	t.Helper()
	return built(t, s).Edges[0].Act
}

func termOf(t *testing.T, s string) lang.Expr {
	t.Helper()
	return actOf(t, "x="+s+";").Args[0]
}

// chosen names, as "xz".
func chosen(s string) Choice {
	c := Choice{}
	for _, r := range s {
		c = append(c, strings.IndexRune("xyzwv", r))
	}
	return c
}

// side of a row, as "2x -y 3": how often it has each of the chosen names, and what it adds.
func side(of, s string) ([]int, int) {
	times, more := make([]int, len(of)), 0
	for _, part := range strings.Fields(s) {
		number := strings.TrimRight(part, of)
		if number == "" || number == "-" {
			number += "1"
		}
		n, err := strconv.Atoi(number)
		if err != nil {
			panic(s)
		}
		if x := strings.IndexByte(of, part[len(part)-1]); x >= 0 {
			times[x] += n
		} else {
			more += n
		}
	}
	return times, more
}

// loose polyhedron by rows of the chosen, as "2x -y <= 3, z = 1". "none" is nothing.
func loose(of, s string) api.Poly {
	p := api.Poly{Dim: len(of)}
	if s == "none" {
		return api.Poly{Dim: len(of), Rows: []api.Row{{A: make([]int, len(of)), B: 1}}}
	}
	if s == "" {
		return p
	}
	for _, text := range strings.Split(s, ",") {
		at := strings.IndexAny(text, "<>=")
		if at < 0 {
			panic(s)
		}
		a, more := side(of, text[:at])
		b, less := side(of, strings.TrimLeft(text[at:], "<>="))
		if text[at] == '<' {
			a, more, b, less = b, less, a, more
		}
		for i, n := range b {
			a[i] -= n
		}
		p.Rows = append(p.Rows, api.Row{Eq: text[at] == '=', A: a, B: less - more})
	}
	return p
}

// formed: the same polyhedron, in form.
func formed(of, s string) api.Poly {
	p, err := poly.Form(loose(of, s))
	if err != nil {
		panic(s)
	}
	return p
}

// said rows of the chosen.
func said(of string, p api.Poly) string {
	var l []string
	for _, r := range p.Rows {
		s := ""
		for x, n := range r.A {
			if n != 0 {
				s += strconv.Itoa(n) + of[x:x+1] + " "
			}
		}
		rel := ">= "
		if r.Eq {
			rel = "= "
		}
		l = append(l, s+rel+strconv.Itoa(r.B))
	}
	return strconv.Itoa(p.Dim) + ": " + strings.Join(l, ", ")
}

func same(p, q api.Poly) bool {
	return p.Dim == q.Dim && slices.EqualFunc(p.Rows, q.Rows, func(a, b api.Row) bool { return a.Eq == b.Eq && a.B == b.B && slices.Equal(a.A, b.A) })
}

func isZero(p api.Poly) bool { return p.Dim == 0 && len(p.Rows) == 0 }

// The polyhedra of these tests, row by row.
func TestStates(t *testing.T) {
	row := func(eq bool, b int, a ...int) api.Row { return api.Row{Eq: eq, A: a, B: b} }
	for _, c := range []struct {
		p    api.Poly
		want []api.Row
	}{
		{loose("xy", ""), nil},
		{loose("", "none"), []api.Row{row(false, 1)}},
		{loose("xy", "none"), []api.Row{row(false, 1, 0, 0)}},
		{loose("xy", "x = 3"), []api.Row{row(true, 3, 1, 0)}},
		{loose("xy", "y<=3,-x>=-2"), []api.Row{row(false, -3, 0, -1), row(false, -2, -1, 0)}},
		{loose("xz", "2x -z 1 >= 3z 5"), []api.Row{row(false, 4, 2, -4)}},
		{loose("xz", "x 1 <= z"), []api.Row{row(false, 1, -1, 1)}},
		{loose("xz", "-12z = x"), []api.Row{row(true, 0, -1, -12)}},
		{formed("xy", "2x<=3, 2x>=3"), []api.Row{row(true, 3, 2, 0)}},
	} {
		if !same(c.p, api.Poly{Dim: c.p.Dim, Rows: c.want}) || poly.Valid(c.p) != nil {
			t.Error(c)
		}
	}
}

// P161: which terms are sums of the chosen.
func TestLinear(t *testing.T) {
	for _, c := range []struct{ of, term, want string }{
		{"xy", "0", "0 0 0"},
		{"xy", "7", "0 0 7"},
		{"xy", "-7", "0 0 -7"},
		{"xy", "x", "1 0 0"},
		{"xy", "y", "0 1 0"},
		{"xy", "z", "none"},
		{"xz", "z", "0 1 0"},
		{"x", "x", "1 0"},
		{"", "3-4", "-1"},
		{"", "x", "none"},
		{"xy", "-y", "0 -1 0"},
		{"xy", "--y", "0 1 0"},
		{"xy", "y+3", "0 1 3"},
		{"xy", "3-y", "0 -1 3"},
		{"xy", "-(y-3)-x", "-1 -1 3"},
		{"xy", "x-y+x-1+4", "2 -1 3"},
		{"xyzwv", "x-(y-(z-1))+5*v-w*2", "1 -1 1 -2 5 -1"},
		{"xy", "x-x", "0 0 0"},
		{"xy", "z-z", "none"},
		{"xy", "x+z-z", "none"},
		{"xy", "0*z", "none"},
		{"xy", "3*x-y*(1+1)", "3 -2 0"},
		{"xy", "(x-3)*-2", "-2 0 6"},
		{"xy", "2*3*(x+1)*(1-2)", "-6 0 -6"},
		{"xy", "2*3", "0 0 6"},
		{"xy", "x*y", "none"},
		{"xy", "x*x", "none"},
		{"xy", "(x-x+2)*y", "none"},
		{"xy", "(x-x)*y", "none"},
		{"xy", "x/1", "none"},
		{"xy", "4/2", "none"},
		{"xy", "x%2", "none"},
		{"xy", "a[0]", "none"},
		{"xy", "0*a[x]", "none"},
		{"xy", "b[0]-b[0]", "none"},
		{"xy", "2147483648", "0 0 2147483648"},
		{"xy", "-2147483648", "0 0 -2147483648"},
		{"xy", "2147483649", "none"},
		{"xy", "-2147483649", "none"},
		{"xy", "1099511627776", "none"},
		{"xy", "2147483649-1", "none"},
		{"xy", "2147483648+1-1", "none"},
		{"xy", "1-1+2147483648", "0 0 2147483648"},
		{"xy", "-2147483648-1", "none"},
		{"xy", "2147483648*x-y", "2147483648 -1 0"},
		{"xy", "2147483648*x+x", "none"},
		{"xy", "2147483648*-x-x+x", "none"},
		{"xy", "65536*32768*x", "2147483648 0 0"},
		{"xy", "65536*32769*x", "none"},
		{"xy", "65536*(32768*x+1)", "2147483648 0 65536"},
		{"xy", "65536*(x+32769)", "none"},
		{"xy", "2147483648*2147483648*0", "none"},
		{"xy", "0*2147483648*2147483648", "0 0 0"},
		{"xy", "2147483648*2147483648*4", "none"},
	} {
		l, ok, err := Linear(names(), chosen(c.of), termOf(t, c.term))
		got := "none"
		if ok {
			got = ""
			for _, n := range l {
				got += " " + strconv.Itoa(n)
			}
			got = strings.TrimSpace(got)
		} else if len(l) > 0 {
			t.Error(c, l)
		}
		if got != c.want || err != nil {
			t.Errorf("%s: %s: %s %v, want %s", c.of, c.term, got, err, c.want)
		}
	}
}

// P161: what is answered is new memory.
func TestLinearMemory(t *testing.T) {
	c, e := chosen("xy"), termOf(t, "3*x+y-4")
	for range 3 {
		l, ok, err := Linear(names(), c, e)
		if !slices.Equal(l, []int{3, 1, -4}) || !ok || err != nil {
			t.Fatal(l, ok, err)
		}
		for i := range l[:cap(l)] {
			l[:cap(l)][i] = 99
		}
	}
}

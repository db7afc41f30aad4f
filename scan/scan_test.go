package scan

import (
	"fmt"
	"strconv"
	"strings"
	"testing"

	"raycone/api"
	"raycone/flow"
	"raycone/lang"
)

const most = api.MaxValue

// built of a program that has a graph.
func built(t *testing.T, s string) flow.Graph {
	t.Helper()
	p, err := lang.Read(s)
	if err != nil {
		t.Fatalf("%.300q: %v", s, err)
	}
	g, err := flow.Build(p)
	if err != nil {
		t.Fatalf("%.300q: %v", s, err)
	}
	return g
}

// actOf a statement; of assume: a test.
func actOf(t *testing.T, s string) flow.Act {
	t.Helper()
	return built(t, "var x;var y;var z;array a[3];array b[1];main{"+s+"}").Edges[0].Act
}

func termOf(t *testing.T, s string) lang.Expr {
	t.Helper()
	return actOf(t, "x="+s+";").Args[0]
}

// names of the tests' states.
func names() flow.Graph {
	return flow.Graph{Vars: []string{"x", "y", "z"}, Arrays: []lang.Array{{Name: "a", Size: 3}, {Name: "b", Size: 1}}, Points: 1}
}

// read an interval, as 1..2, 3.. or ..-M+1, where M is MaxValue.
func read(s string) api.Interval {
	low, high, ok := strings.Cut(s, "..")
	if !ok {
		high = low
	}
	return api.Interval{Down: low == "", Up: high == "", Low: readNumber(low), High: readNumber(high)}
}

func readNumber(s string) int {
	sign, rest, ok := strings.Cut(s, "M")
	if !ok {
		n, _ := strconv.Atoi(s)
		return n
	}
	n, _ := strconv.Atoi(sign + "1")
	more, _ := strconv.Atoi(rest)
	return n*most + more
}

// state by the intervals of x, y, z, a and b: "none" is nothing.
func state(s string) State {
	if s == "none" {
		return State{None: true}
	}
	var l []api.Interval
	for _, one := range strings.Fields(s) {
		l = append(l, read(one))
	}
	return State{Vars: l[:3], Arrays: l[3:]}
}

func said(a api.Interval) string {
	number := func(n int) string {
		switch {
		case n > most/2:
			return strings.TrimSuffix(fmt.Sprintf("M%+d", n-most), "+0")
		case n < -most/2:
			return strings.TrimSuffix(fmt.Sprintf("-M%+d", n+most), "+0")
		}
		return strconv.Itoa(n)
	}
	switch {
	case a.Down && a.Up:
		return ".."
	case a.Down:
		return ".." + number(a.High)
	case a.Up:
		return number(a.Low) + ".."
	case a.Low == a.High:
		return number(a.Low)
	}
	return number(a.Low) + ".." + number(a.High)
}

func saidState(s State) string {
	if s.None {
		return "none"
	}
	var l []string
	for _, a := range s.Vars {
		l = append(l, said(a))
	}
	for _, a := range s.Arrays {
		l = append(l, said(a))
	}
	return strings.Join(l, " ")
}

// P141: terms of each kind; nothing comes where always something is wrong; great numbers, at the edge and on the way.
func TestEval(t *testing.T) {
	const some = "1..3 -2..5 .. 7 -1..4"
	for _, c := range []struct{ state, term, want string }{
		{some, "0", "0"},
		{some, "1099511627776", "M"},
		{some, "x", "1..3"},
		{some, "z", "-M..M"},
		{some, "-x", "-3..-1"},
		{some, "--y", "-2..5"},
		{some, "x+y", "-1..8"},
		{some, "x-y", "-4..5"},
		{some, "x*y", "-6..15"},
		{some, "y/x", "-2..5"},
		{some, "y%3", "-2..2"},
		{some, "7%x", "0..2"},
		{some, "x/y", "-3..3"},
		{some, "a[x]", "7"},
		{some, "a[0]+b[0]", "6..11"},
		{some, "a[y]", "7"},
		{some, "b[y]", "-1..4"},
		{some, "a[a[0]-5]", "7"},
		{some, "1/0", "none"},
		{some, "x%0", "none"},
		{some, "x/(a[0]-7)", "none"},
		{some, "0*(1/0)", "none"},
		{some, "-(1%0)", "none"},
		{some, "a[3]", "none"},
		{some, "a[-1]", "none"},
		{some, "a[-x]", "none"},
		{some, "b[x]", "none"},
		{some, "b[1/0]", "none"},
		{some, "1+a[a[0]]", "none"},
		{some, "1099511627776+0", "M"},
		{some, "1099511627776+1", "none"},
		{some, "1099511627776+1-1", "none"},
		{some, "1099511627775+x", "M"},
		{some, "-1099511627776-x", "none"},
		{some, "-1099511627775-x", "-M"},
		{some, "1048576*1048576", "M"},
		{some, "1048577*1048576", "none"},
		{some, "-1048577*1048576", "none"},
		{some, "1099511627776*1099511627776*0", "none"},
		{some, "1099511627776*y", "-M..M"},
		{some, "z+z", "-M..M"},
		{some, "z*z", "-M..M"},
		{some, "z/2", "-549755813888..549755813888"},
		{some, "z-1", "-M..M-1"},
		{"M.. ..-M 0 0 0", "x", "M"},
		{"M.. ..-M 0 0 0", "y", "-M"},
		{"M.. ..-M 0 0 0", "x+y", "0"},
		{"M.. ..-M 0 0 0", "x-y", "none"},
		{"M.. ..-M 0 0 0", "x+1", "none"},
		{"0 0 0 M.. ..-M", "a[0]+b[0]", "0"},
		{"none", "x", "none"},
		{"none", "1", "none"},
		{"none", "1/0", "none"},
	} {
		a, ok, err := Eval(names(), state(c.state), termOf(t, c.term))
		want := api.Interval{}
		if c.want != "none" {
			want = read(c.want)
		}
		if a != want || ok != (c.want != "none") || err != nil {
			t.Errorf("%s: %s: %s %v %v, want %s", c.state, c.term, said(a), ok, err, c.want)
		}
	}
}

// P142: what each act makes.
func TestGo(t *testing.T) {
	const some = "1..3 -2..5 .. 7..8 -1..4"
	for _, c := range []struct{ state, act, want string }{
		{some, "while true{}", some},
		{some, "read y;", "1..3 -M..M .. 7..8 -1..4"},
		{some, "x=y;", "-2..5 -2..5 .. 7..8 -1..4"},
		{some, "x=x+1;", "2..4 -2..5 .. 7..8 -1..4"},
		{some, "x=1/0;", "none"},
		{some, "x=a[x+2];", "none"},
		{some, "x=a[0]+b[0];", "6..12 -2..5 .. 7..8 -1..4"},
		{some, "a[0]=x;", "1..3 -2..5 .. 1..8 -1..4"},
		{some, "a[x+2]=x;", "none"},
		{some, "a[0]=x%0;", "none"},
		{some, "a[1/0]=x;", "none"},
		{some, "b[0]=x;", "1..3 -2..5 .. 7..8 1..3"},
		{some, "assume x<y;", "1..3 2..5 .. 7..8 -1..4"},
		{some, "assume x<=y;", "1..3 1..5 .. 7..8 -1..4"},
		{some, "assume x==y;", "1..3 1..3 .. 7..8 -1..4"},
		{some, "assume x!=1;", "2..3 -2..5 .. 7..8 -1..4"},
		{some, "assume x>y;", "1..3 -2..2 .. 7..8 -1..4"},
		{some, "assume x>=y;", "1..3 -2..3 .. 7..8 -1..4"},
		{some, "assume x>3;", "none"},
		{some, "assume x<1;", "none"},
		{some, "assume true;", some},
		{some, "assume 1/0==1;", "none"},
		{some, "assume 1/0!=1;", "none"},
		{some, "assume x==x/0;", "none"},
		{some, "assume x<2 and y>4;", "1 5 .. 7..8 -1..4"},
		{some, "assume x<2 and y<x;", "1 -2..0 .. 7..8 -1..4"},
		{some, "assume y<x and x<2;", "1 -2..0 .. 7..8 -1..4"},
		{some, "assume x<2 and x>2;", "none"},
		{some, "assume a[x]>5;", "1..2 -2..5 .. 7..8 -1..4"},
		{some, "assume a[x]>8;", "none"},
		{some, "assume b[0]>2;", "1..3 -2..5 .. 7..8 3..4"},
		{some, "assume a[0]>7;", some},
		{some, "assert x<3;", "3 -2..5 .. 7..8 -1..4"},
		{some, "assert x<4;", "none"},
		{"none", "x=1;", "none"},
		{"none", "read x;", "none"},
		{"none", "assume true;", "none"},
		{"none", "while true{}", "none"},
	} {
		s, err := Go(names(), state(c.state), actOf(t, c.act))
		if got := saidState(s); got != c.want || err != nil {
			t.Errorf("%s: %s: %s %v, want %s", c.state, c.act, got, err, c.want)
		}
	}
}

// Tests narrow what stands in terms; and what an act has done without anything wrong is known behind it.
func TestGoNarrows(t *testing.T) {
	const some = ".. -2..5 0..9 0 0"
	for _, c := range []struct{ act, want string }{
		{"assume x==y;", "-2..5 -2..5 0..9 0 0"},
		{"assume x+1<y;", "-M..3 -2..5 0..9 0 0"},
		{"assume 1-x<y;", "-3..M -2..5 0..9 0 0"},
		{"assume -x==y;", "-5..2 -2..5 0..9 0 0"},
		{"assume x*2<=y;", "-549755813888..2 -2..5 0..9 0 0"},
		{"assume z*x==12;", "1..12 -2..5 1..9 0 0"},
		{"assume z/3==2;", ".. -2..5 6..8 0 0"},
		{"assume 8/z==2;", ".. -2..5 1..9 0 0"},
		{"assume 8%z==2;", ".. -2..5 1..9 0 0"},
		{"assume x+z<y and y<0;", "-M..-2 -2..-1 0..9 0 0"},
		{"x=8/z;", "0..8 -2..5 1..9 0 0"},
		{"x=8%z;", "0..8 -2..5 1..9 0 0"},
		{"z=x+1;", "-M..M-1 -2..5 -M+1..M 0 0"},
		{"x=a[y];", "0 0..2 0..9 0 0"},
		{"a[y+1]=8/z;", ".. -1..1 1..9 0..8 0"},
		{"assume a[y]<z;", ".. 0..2 1..9 0 0"},
		{"assume a[z]<b[y];", "none"},
	} {
		s, err := Go(names(), state(some), actOf(t, c.act))
		if got := saidState(s); got != c.want || err != nil {
			t.Errorf("%s: %s %v, want %s", c.act, got, err, c.want)
		}
	}
}

package linear

import (
	"fmt"
	"math/rand"
	"slices"
	"strings"
	"testing"

	"raycone/api"
	"raycone/lang"
	"raycone/machine"
)

const most = api.MaxBound

func termOf(t *testing.T, s string) lang.Expr {
	t.Helper()
	p, err := lang.Read("main{x=" + s + ";}")
	if err != nil {
		t.Fatalf("%q: %v", s, err)
	}
	return p.Main[0].Args[0]
}

// said sum of x, y and z, or "none".
func said(s Sum, ok bool) string {
	switch {
	case !ok && (len(s.Times) > 0 || s.More != 0):
		return "none, but not zero"
	case !ok:
		return "none"
	}
	return strings.Trim(fmt.Sprint(s.Times), "[]") + " " + fmt.Sprint(s.More)
}

func TestOf(t *testing.T) {
	for term, want := range map[string]string{
		"0":                             "0 0 0 0",
		"7":                             "0 0 0 7",
		"-7":                            "0 0 0 -7",
		"x":                             "1 0 0 0",
		"z":                             "0 0 1 0",
		"-y":                            "0 -1 0 0",
		"--y":                           "0 1 0 0",
		"y+3":                           "0 1 0 3",
		"3+y":                           "0 1 0 3",
		"y-3":                           "0 1 0 -3",
		"3-y":                           "0 -1 0 3",
		"-y-3":                          "0 -1 0 -3",
		"-(y-3)":                        "0 -1 0 3",
		"x-y+z-1+4":                     "1 -1 1 3",
		"x-(y-(z-1))":                   "1 -1 1 -1",
		"x-x":                           "0 0 0 0",
		"x+x+x":                         "3 0 0 0",
		"2*x":                           "2 0 0 0",
		"x*-2":                          "-2 0 0 0",
		"(x-3)*2+y":                     "2 1 0 -6",
		"2*3*(x+1)*(1-2)":               "-6 0 0 -6",
		"0*(x+y)":                       "0 0 0 0",
		"x*y":                           "none",
		"(x-x)*y":                       "none",
		"(x-x+2)*y":                     "none",
		"x/1":                           "none",
		"4/2":                           "none",
		"x%1":                           "none",
		"w":                             "none",
		"w-w":                           "none",
		"0*w":                           "none",
		"x+w":                           "none",
		"w+x":                           "none",
		"-w":                            "none",
		"2*(4/2)":                       "none",
		"(4/2)*2":                       "none",
		"a[0]":                          "none",
		"a[0]*0":                        "none",
		"1099511627776":                 "0 0 0 1099511627776",
		"1099511627776+0":               "0 0 0 1099511627776",
		"1099511627776+1":               "none",
		"1099511627776+1-1":             "none",
		"1-1099511627776-1":             "0 0 0 -1099511627776",
		"-1099511627776-1":              "none",
		"x+1099511627776":               "1 0 0 1099511627776",
		"1099511627776*x":               "1099511627776 0 0 0",
		"1099511627776*x+x":             "none",
		"1099511627776*(x+1)-1":         "1099511627776 0 0 1099511627775",
		"1048576*1048576":               "0 0 0 1099511627776",
		"1048577*1048576":               "none",
		"-1048577*1048576*x":            "none",
		"1099511627776*4194304":         "none",
		"1099511627776*16777216":        "none",
		"1099511627776*1099511627776*0": "none",
	} {
		if got := said(Of(termOf(t, term), []string{"x", "y", "z"}, most)); got != want {
			t.Errorf("%s: %s, want %s", term, got, want)
		}
	}
}

// What is the most is handed over, and counts on the way; variables, too, are each so many times in a sum.
func TestOfMost(t *testing.T) {
	for _, c := range []struct {
		term string
		most int
		want string
	}{
		{"5", 5, "0 5"}, {"6", 5, "none"}, {"-6", 5, "none"}, {"6-1", 5, "none"}, {"3+3", 5, "none"}, {"x+5", 5, "1 5"}, {"5*x", 5, "5 0"}, {"5*x+x", 5, "none"}, {"-5*x-x", 5, "none"}, {"3*(x+2)", 5, "none"}, {"2*3", 5, "none"}, {"-2*3", 5, "none"}, {"x", 0, "none"}, {"0", 0, "0 0"}, {"0*x", 1, "0 0"},
	} {
		if got := said(Of(termOf(t, c.term), []string{"x"}, c.most)); got != c.want {
			t.Error(c, got)
		}
	}
	if got := said(Of(termOf(t, "1-2"), nil, most)); got != " -1" {
		t.Error(got)
	}
}

func TestLess(t *testing.T) {
	a, b := Sum{[]int{1, 2}, 3}, Sum{[]int{4, -4}, 5}
	if got := a.Less(b); !slices.Equal(got.Times, []int{-3, 6}) || got.More != -2 {
		t.Error(got)
	}
	if !slices.Equal(a.Times, []int{1, 2}) || !slices.Equal(b.Times, []int{4, -4}) {
		t.Error(a, b)
	}
}

func term(r *rand.Rand, deep int) string {
	if deep == 0 || r.Intn(6) == 0 {
		return []string{"x", "y", "z", "0", "1", "2", "5"}[r.Intn(7)]
	}
	if r.Intn(5) == 0 {
		return "-(" + term(r, deep-1) + ")"
	}
	return "(" + term(r, deep-1) + ")" + []string{"+", "-", "*"}[r.Intn(3)] + "(" + term(r, deep-1) + ")"
}

// A sum is what the machine makes of its term, whatever the variables are.
func TestOfAlways(t *testing.T) {
	r := rand.New(rand.NewSource(160))
	sums := 0
	for range 5000 {
		text := term(r, 1+r.Intn(4))
		s, ok := Of(termOf(t, text), []string{"x", "y", "z"}, most)
		if !ok {
			continue
		}
		sums++
		p, err := lang.Read("var x;var y;var z;main{x=" + text + ";}")
		if err != nil {
			t.Fatal(err)
		}
		vars, want := make([]int, 3), s.More
		for i := range vars {
			vars[i] = r.Intn(200) - 100
			want += s.Times[i] * vars[i]
		}
		if end, err := machine.RunFrom(p, vars, nil, nil, 1); err != nil || end.Kind != "done" || end.Vars[0] != want {
			t.Fatal(text, vars, s, end, err)
		}
	}
	if sums < 1000 {
		t.Error(sums)
	}
}

// What is no term is no sum, nor is what has too many parts.
func TestOfNoTerm(t *testing.T) {
	x := lang.Expr{Op: "var", Name: "x"}
	of := func(op string, l ...lang.Expr) lang.Expr { return lang.Expr{Op: op, L: l} }
	shared := x
	for range 100 {
		shared = of("-", shared, shared)
	}
	wide := of("neg", slices.Repeat([]lang.Expr{shared}, 9000)...)
	for i, e := range []lang.Expr{{}, shared, wide, of("+", shared, wide), of("*", of("num"), shared), of("?", x), of("neg"), of("neg", x, x), of("+", x), of("-", x, x, x), of("*"), of("num", x), {Op: "num", Name: "x"}, {Op: "var", Name: "x", N: 1}, {Op: "var", Name: "x", L: []lang.Expr{x}}, {Op: "neg", N: 1, L: []lang.Expr{x}}, {Op: "+", Name: "x", L: []lang.Expr{x, x}}, of("neg", of("+", x)), of("*", lang.Expr{Op: "num", N: 2}, of("?"))} {
		if got := said(Of(e, []string{"x"}, most)); got != "none" {
			t.Error(i, got)
		}
	}
	for many, want := range map[int]string{1: "1 0", 1000: "1000 0", 2000: "2000 0", 2001: "none", 100_000: "none"} {
		long := x
		for range many - 1 {
			long = of("+", long, x)
		}
		if got := said(Of(long, []string{"x"}, most)); got != want {
			t.Error(many, got)
		}
	}
}

package flow

import (
	"fmt"
	"math"
	"slices"
	"strings"
	"testing"

	"raycone/api"
	"raycone/lang"
)

func num(n int) lang.Expr { return lang.Expr{Op: "num", N: n} }

func variable(name string) lang.Expr { return lang.Expr{Op: "var", Name: name} }

// holding a graph of two points with one edge, of x, y and an array a of two places.
func holding(a Act) Graph {
	return Graph{Vars: []string{"x", "y"}, Arrays: []lang.Array{{Name: "a", Size: 2}}, Points: 2, Edges: []Edge{{From: 0, To: 1, Act: a}}}
}

func skips(many int) []Edge { return slices.Repeat([]Edge{{Act: Act{Kind: "skip"}}}, many) }

// P132: acts, the fields of their kinds, and their statements.
func TestValidActs(t *testing.T) {
	x, one := variable("x"), num(1)
	test := lang.Test{A: x, Rel: "<", B: one}
	terms, tests := []lang.Expr{one}, []lang.Test{test}
	for _, c := range []struct {
		a  Act
		is bool
	}{
		{Act{Kind: "skip"}, true},
		{Act{Kind: "skip", Args: []lang.Expr{}, Tests: []lang.Test{}}, true},
		{Act{Kind: "skip", Name: "x"}, false},
		{Act{Kind: "skip", Args: terms}, false},
		{Act{Kind: "skip", Tests: tests}, false},
		{Act{Kind: "set", Name: "x", Args: terms}, true},
		{Act{Kind: "set", Name: "x", Args: terms, Tests: []lang.Test{}}, true},
		{Act{Kind: "set", Name: "x", Args: terms, Tests: tests}, false},
		{Act{Kind: "set", Name: "x"}, false},
		{Act{Kind: "set", Name: "x", Args: []lang.Expr{one, one}}, false},
		{Act{Kind: "set", Name: "a", Args: terms}, false},
		{Act{Kind: "set", Name: "z", Args: terms}, false},
		{Act{Kind: "set", Args: terms}, false},
		{Act{Kind: "set", Name: "x", Args: []lang.Expr{variable("z")}}, false},
		{Act{Kind: "set", Name: "x", Args: []lang.Expr{variable("a")}}, false},
		{Act{Kind: "set", Name: "x", Args: []lang.Expr{{Op: "at", Name: "a", L: []lang.Expr{x}}}}, true},
		{Act{Kind: "set", Name: "x", Args: []lang.Expr{{Op: "at", Name: "y", L: []lang.Expr{x}}}}, false},
		{Act{Kind: "set", Name: "x", Args: []lang.Expr{{Op: "at", Name: "a"}}}, false},
		{Act{Kind: "set", Name: "x", Args: []lang.Expr{num(-1)}}, false},
		{Act{Kind: "set", Name: "x", Args: []lang.Expr{num(api.MaxValue)}}, true},
		{Act{Kind: "set", Name: "x", Args: []lang.Expr{num(api.MaxValue + 1)}}, false},
		{Act{Kind: "put", Name: "a", Args: []lang.Expr{x, one}}, true},
		{Act{Kind: "put", Name: "a", Args: terms}, false},
		{Act{Kind: "put", Name: "a", Args: []lang.Expr{x, one, one}}, false},
		{Act{Kind: "put", Name: "x", Args: []lang.Expr{x, one}}, false},
		{Act{Kind: "put", Name: "a", Args: []lang.Expr{x, one}, Tests: tests}, false},
		{Act{Kind: "read", Name: "x"}, true},
		{Act{Kind: "read", Name: "a"}, false},
		{Act{Kind: "read", Name: "z"}, false},
		{Act{Kind: "read"}, false},
		{Act{Kind: "read", Name: "x", Args: terms}, false},
		{Act{Kind: "read", Name: "x", Tests: tests}, false},
		{Act{Kind: "test"}, true},
		{Act{Kind: "test", Tests: tests}, true},
		{Act{Kind: "test", Tests: []lang.Test{test, test}}, true},
		{Act{Kind: "test", Tests: tests, Name: "x"}, false},
		{Act{Kind: "test", Tests: tests, Args: terms}, false},
		{Act{Kind: "test", Tests: []lang.Test{{A: x, Rel: "=", B: one}}}, false},
		{Act{Kind: "test", Tests: []lang.Test{{A: x, Rel: "", B: one}}}, false},
		{Act{Kind: "test", Tests: []lang.Test{{}}}, false},
		{Act{Kind: "test", Tests: []lang.Test{test, {A: x, Rel: "<", B: variable("z")}}}, false},
		{Act{Kind: "fail"}, true},
		{Act{Kind: "fail", Tests: tests}, true},
		{Act{Kind: "fail", Tests: tests, Name: "x"}, false},
		{Act{Kind: "fail", Tests: tests, Args: terms}, false},
		{Act{Kind: "fail", Tests: []lang.Test{{A: variable("a"), Rel: "<", B: one}}}, false},
		{Act{}, false},
		{Act{Kind: "jump"}, false},
		{Act{Kind: "Skip"}, false},
		{Act{Kind: "call", Name: "x", Args: terms}, false},
		{Act{Kind: "assume", Tests: tests}, false},
		{Act{Kind: "assert", Tests: tests}, false},
		{Act{Kind: "if", Tests: tests}, false},
		{Act{Kind: "while"}, false},
	} {
		g := holding(c.a)
		if err := Valid(g); (err == nil) != c.is || err != nil && err != api.ErrShape {
			t.Errorf("%s: %v", told(c.a), err)
		}
		if Takes(g, c.a) != c.is || Takes(Graph{Vars: g.Vars, Arrays: g.Arrays}, c.a) != c.is || Takes(Graph{Vars: []string{"x", "x"}, Arrays: g.Arrays}, c.a) {
			t.Errorf("%s: %v", told(c.a), Takes(g, c.a))
		}
		// A wrong act is told wherever it stands, and ahead of all else.
		g.Edges = slices.Concat(skips(3), g.Edges, skips(1))
		if err := Valid(g); (err == nil) != c.is {
			t.Errorf("%s: %v", told(c.a), err)
		}
		if l, err := Steps(g, 1, []int{0, 0}, [][]int{{0, 0}}, 0); (err == nil) != c.is || err != nil && (err != api.ErrShape || len(l) > 0) {
			t.Errorf("%s: %v %v", told(c.a), l, err)
		}
	}
}

// nested terms, so deep in each other.
func nested(deep int) lang.Expr {
	e := num(1)
	for range deep - 1 {
		e = lang.Expr{Op: "neg", L: []lang.Expr{e}}
	}
	return e
}

// P132: points, edges, heads, variables and arrays.
func TestValidGraph(t *testing.T) {
	names := func(many int) []string { return strings.Split("abcdefghijklmnop"[:many], "") }
	for i, c := range []struct {
		g  Graph
		is bool
	}{
		{Graph{}, false},
		{Graph{Points: -1}, false},
		{Graph{Points: 1}, true},
		{Graph{Points: 120}, true},
		{Graph{Points: 121}, false},
		{Graph{Points: math.MaxInt}, false},
		{Graph{Points: math.MinInt}, false},
		{Graph{Points: 1, Vars: []string{}, Arrays: []lang.Array{}, Edges: []Edge{}, Heads: []int{}}, true},
		{Graph{Points: 1, Edges: skips(400)}, true},
		{Graph{Points: 1, Edges: skips(401)}, false},
		{Graph{Points: 2, Heads: []int{1, 0, 1}}, true},
		{Graph{Points: 2, Heads: []int{2}}, false},
		{Graph{Points: 2, Heads: []int{0, -1}}, false},
		{Graph{Points: 2, Heads: []int{math.MinInt}}, false},
		{Graph{Points: 2, Edges: []Edge{{From: 1, To: 0, Act: Act{Kind: "skip"}}}}, true},
		{Graph{Points: 2, Edges: []Edge{{From: 2, To: 0, Act: Act{Kind: "skip"}}}}, false},
		{Graph{Points: 2, Edges: []Edge{{From: 0, To: 2, Act: Act{Kind: "skip"}}}}, false},
		{Graph{Points: 2, Edges: []Edge{{From: -1, To: 0, Act: Act{Kind: "skip"}}}}, false},
		{Graph{Points: 2, Edges: []Edge{{From: 0, To: -1, Act: Act{Kind: "skip"}}}}, false},
		{Graph{Points: 2, Edges: []Edge{{From: 0, To: math.MaxInt, Act: Act{Kind: "skip"}}}}, false},
		{Graph{Points: 1, Vars: names(12)}, true},
		{Graph{Points: 1, Vars: names(13)}, false},
		{Graph{Points: 1, Vars: names(11), Arrays: []lang.Array{{Name: "z", Size: 16}}}, true},
		{Graph{Points: 1, Vars: names(12), Arrays: []lang.Array{{Name: "z", Size: 16}}}, false},
		{Graph{Points: 1, Vars: []string{"x", "x"}}, false},
		{Graph{Points: 1, Vars: []string{"x"}, Arrays: []lang.Array{{Name: "x", Size: 1}}}, false},
		{Graph{Points: 1, Vars: []string{""}}, false},
		{Graph{Points: 1, Vars: []string{"while"}}, false},
		{Graph{Points: 1, Vars: []string{"abcdefgh"}}, true},
		{Graph{Points: 1, Vars: []string{"abcdefghi"}}, false},
		{Graph{Points: 1, Arrays: []lang.Array{{Name: "a", Size: 0}}}, false},
		{Graph{Points: 1, Arrays: []lang.Array{{Name: "a", Size: 17}}}, false},
		{Graph{Points: 1, Arrays: []lang.Array{{Name: "a", Size: -1}}}, false},
		{holding(Act{Kind: "set", Name: "x", Args: []lang.Expr{nested(12)}}), true},
		{holding(Act{Kind: "set", Name: "x", Args: []lang.Expr{nested(13)}}), false},
		{holding(Act{Kind: "set", Name: "x", Args: []lang.Expr{nested(100000)}}), false},
		{holding(Act{Kind: "test", Tests: slices.Repeat([]lang.Test{{A: num(1), Rel: "<", B: num(2)}}, 390)}), true},
		{holding(Act{Kind: "test", Tests: slices.Repeat([]lang.Test{{A: num(1), Rel: "<", B: num(2)}}, 410)}), false},
		{holding(Act{Kind: "test", Tests: slices.Repeat([]lang.Test{{A: num(1), Rel: "<", B: num(2)}}, 100000)}), false},
	} {
		if err := Valid(c.g); (err == nil) != c.is || err != nil && err != api.ErrShape {
			t.Errorf("%d: %.200s: %v", i, told(c.g), err)
		}
	}
}

// P1: terms that share their parts, so that written out they would be without end, are told soon.
func TestValidShared(t *testing.T) {
	e := num(1)
	for range 200 {
		e = lang.Expr{Op: "+", L: []lang.Expr{e, e}}
	}
	if err := Valid(holding(Act{Kind: "set", Name: "x", Args: []lang.Expr{e}})); err != api.ErrShape {
		t.Error(err)
	}
}

// P3, P4: a graph is only read, and nothing behind the lengths of its lists.
func TestGraphIsOnlyRead(t *testing.T) {
	bad := Edge{From: 9, To: 9, Act: Act{Kind: "?"}}
	args := []lang.Expr{num(1), {Op: "?"}}
	tests := []lang.Test{{A: variable("x"), Rel: "<", B: num(5)}, {}}
	all := []Edge{{From: 0, To: 1, Act: Act{Kind: "set", Name: "x", Args: args[:1]}}, {From: 0, To: 1, Act: Act{Kind: "test", Tests: tests[:1]}}, bad}
	vars, arrays, heads := []string{"x", "?"}, []lang.Array{{Name: "a", Size: 1}, {}}, []int{1, 9}
	g := Graph{Vars: vars[:1], Arrays: arrays[:1], Points: 2, Edges: all[:2], Heads: heads[:1]}
	values, places := []int{3, 4}, []int{7, 8}
	lists := [][]int{places[:1], nil}
	before := fmt.Sprint(args, tests, all, vars, arrays, heads, values, places, lists)
	if err := Valid(g); err != nil {
		t.Error(err)
	}
	l, err := Steps(g, 0, values[:1], lists[:1], 0)
	if got := fmt.Sprint(l); got != "[{0 1 [1] [[7]]} {1 1 [3] [[7]]}]" || err != nil {
		t.Error(got, err)
	}
	if o, err := Order(g); fmt.Sprint(o) != "[0 1]" || err != nil {
		t.Error(o, err)
	}
	if after := fmt.Sprint(args, tests, all, vars, arrays, heads, values, places, lists); after != before {
		t.Error(after)
	}
}

// A choice: so many variables of a graph, rising.
func TestChosen(t *testing.T) {
	g := Graph{Vars: []string{"x", "y", "z"}, Points: 1}
	for _, c := range []struct {
		choice []int
		most   int
		is     bool
	}{
		{nil, 0, true}, {[]int{}, 3, true}, {[]int{0}, 1, true}, {[]int{2}, 1, true}, {[]int{0, 2}, 2, true}, {[]int{0, 1, 2}, 3, true}, {[]int{0, 1, 2}, 2, false}, {[]int{0}, 0, false}, {[]int{1, 0}, 3, false}, {[]int{1, 1}, 3, false}, {[]int{-1}, 3, false}, {[]int{3}, 3, false}, {[]int{0, 3}, 3, false}, {[]int{math.MinInt}, 3, false}, {[]int{math.MaxInt}, 3, false},
	} {
		if Chosen(g, c.choice, c.most) != c.is {
			t.Error(c)
		}
	}
	if Chosen(Graph{Points: 1}, []int{0}, 3) {
		t.Error("of no variables")
	}
}

// Names of terms, as what they are used; also of terms that no text has, and that have no end.
func TestKnows(t *testing.T) {
	g := holding(Act{Kind: "skip"})
	x, z := variable("x"), variable("z")
	of := func(op string, l ...lang.Expr) lang.Expr { return lang.Expr{Op: op, L: l} }
	shared, wrong := x, of("-", x, z)
	for range 100 {
		shared, wrong = of("+", shared, shared), of("+", wrong, x)
	}
	for i, c := range []struct {
		e  lang.Expr
		is bool
	}{
		{x, true}, {variable("y"), true}, {z, false}, {variable("a"), false}, {variable(""), false}, {num(3), true}, {lang.Expr{}, true}, {lang.Expr{Op: "at", Name: "a", L: []lang.Expr{x}}, true}, {lang.Expr{Op: "at", Name: "a"}, true}, {lang.Expr{Op: "at", Name: "x", L: []lang.Expr{x}}, false}, {lang.Expr{Op: "at", Name: "a", L: []lang.Expr{z}}, false}, {lang.Expr{Op: "num", Name: "z"}, true}, {of("+", x, x), true}, {of("+", x, z), false}, {of("+", z, x), false}, {of("neg", of("*", x, of("neg", z))), false}, {of("?", z), false}, {shared, true}, {wrong, false}, {of("neg", slices.Repeat([]lang.Expr{shared}, 9000)...), true},
	} {
		if Knows(g, c.e) != c.is {
			t.Error(i, c.is)
		}
	}
	// As many parts as a text can have.
	long := z
	for range 1999 {
		long = of("+", long, x)
	}
	if Knows(g, long) {
		t.Error("long")
	}
}

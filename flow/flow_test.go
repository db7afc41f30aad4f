package flow

import (
	"fmt"
	"strconv"
	"strings"
	"testing"

	"raycone/lang"
)

// read a program of a test.
func read(t *testing.T, s string) lang.Program {
	t.Helper()
	p, err := lang.Read(s)
	if err != nil {
		t.Fatalf("%.300q: %v", s, err)
	}
	return p
}

// built of a program that has a graph.
func built(t *testing.T, s string) Graph {
	t.Helper()
	g, err := Build(read(t, s))
	if err != nil {
		t.Fatalf("%.300q: %v", s, err)
	}
	return g
}

// told of anything: all its fields.
func told(v any) string { return fmt.Sprintf("%+v", v) }

// term as a text, with brackets around all that is made of others.
func term(e lang.Expr) string {
	switch {
	case e.Op == "num":
		return strconv.Itoa(e.N)
	case e.Op == "at":
		return e.Name + "[" + term(e.L[0]) + "]"
	case e.Op == "neg":
		return "-" + term(e.L[0])
	case len(e.L) == 2:
		return "(" + term(e.L[0]) + e.Op + term(e.L[1]) + ")"
	}
	return e.Name
}

// row of tests as a text.
func row(l []lang.Test) string {
	var out []string
	for _, t := range l {
		out = append(out, term(t.A)+t.Rel+term(t.B))
	}
	return strings.Join(out, "&")
}

// edges as texts.
func edges(g Graph) string {
	var out []string
	for _, e := range g.Edges {
		s := fmt.Sprint(e.From, ">", e.To, " ", e.Act.Kind)
		if e.Act.Name != "" {
			s += " " + e.Act.Name
		}
		for _, a := range e.Act.Args {
			s += " " + term(a)
		}
		if len(e.Act.Tests) > 0 {
			s += " " + row(e.Act.Tests)
		}
		out = append(out, s)
	}
	return strings.Join(out, "; ")
}

// text of a graph: points, heads, edges.
func text(g Graph) string { return fmt.Sprintf("%d%v %s", g.Points, g.Heads, edges(g)) }

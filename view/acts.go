package view

import (
	"slices"

	"raycone/api"
	"raycone/exact"
	"raycone/flow"
	"raycone/lang"
	"raycone/wide"
)

// After an act that the graph may have: what it makes of what p has.
func (v View) After(p exact.Poly, a flow.Act) exact.Poly { return v.done(p, a, v.made) }

// Before an act that the graph may have: that of which it can make what p has.
func (v View) Before(p exact.Poly, a flow.Act) exact.Poly { return v.done(p, a, v.source) }

// done: p by an act, where set tells what comes of it, if a chosen variable is set to a sum. All else is the same both ways.
func (v View) done(p exact.Poly, a flow.Act, set func(p exact.Poly, x int, sum wide.Row) exact.Poly) exact.Poly {
	x := slices.Index(v.names, a.Name)
	switch a.Kind {
	case "test", "fail":
		return v.tests(p, a.Tests)
	case "read", "set":
		if x < 0 {
			return p
		}
		if a.Kind == "set" {
			if s, ok := v.Sum(a.Args[0]); ok {
				return set(p, x, wide.RowOf(append(s.Times, s.More)))
			}
		}
		return v.anything(p, x)
	}
	return p
}

// anything is what x is.
func (v View) anything(p exact.Poly, x int) exact.Poly {
	return exact.Made(v.Dim(), p.Rays, append(slices.Clone(p.Lines), v.only(x)))
}

// only x, once.
func (v View) only(x int) wide.Row {
	line := make([]int, v.Dim()+1)
	line[x] = 1
	return wide.RowOf(line)
}

// made by setting x to a sum: what makes the polyhedron becomes what makes the next one.
func (v View) made(p exact.Poly, x int, sum wide.Row) exact.Poly {
	become := func(l []wide.Row) []wide.Row {
		out := make([]wide.Row, len(l))
		for i, g := range l {
			out[i] = slices.Clone(g)
			out[i][x] = sum.Dot(g)
		}
		return out
	}
	return exact.Made(v.Dim(), become(p.Rays), become(p.Lines))
}

// source of what is made by setting x to a sum: what a row asks of x it asks of the sum.
func (v View) source(p exact.Poly, x int, sum wide.Row) exact.Poly {
	more := sum.Sum(wide.From(1), v.only(x), wide.From(-1))
	become := func(l []wide.Row) []wide.Row {
		out := make([]wide.Row, len(l))
		for i, r := range l {
			out[i] = r.Sum(wide.From(1), more, r[x])
		}
		return out
	}
	return exact.ByRows(v.Dim(), become(p.Up), become(p.Even))
}

// tests all hold.
func (v View) tests(p exact.Poly, l []lang.Test) exact.Poly {
	var rows []api.Row
	for _, t := range l {
		if r, ok := v.Row(t, 1); ok && !p.Holds(r) {
			rows = append(rows, r)
		}
	}
	if len(rows) == 0 {
		return p
	}
	up, even := exact.Split(rows)
	return p.Meet(up, even)
}

// Row that holds where a test does, in which one side is by more below another one that it is less than; false: there is none.
func (v View) Row(t lang.Test, more int) (api.Row, bool) {
	a, isSum := v.Sum(t.A)
	b, areSums := v.Sum(t.B)
	if !isSum || !areSums || t.Rel == "!=" {
		return api.Row{}, false
	}
	if t.Rel == "<" || t.Rel == "<=" {
		a, b = b, a
	}
	over := a.Less(b)
	r := api.Row{Eq: t.Rel == "==", A: over.Times, B: -over.More}
	if t.Rel == "<" || t.Rel == ">" {
		r.B += more
	}
	return r, true
}

// Stuck tells whether an act can be done at no point of p, as a test asks that sums differ which are the same at each.
func (v View) Stuck(p exact.Poly, a flow.Act) bool {
	return slices.ContainsFunc(a.Tests, func(t lang.Test) bool {
		r, ok := v.Row(lang.Test{A: t.A, Rel: "==", B: t.B}, 0)
		return ok && t.Rel == "!=" && p.Holds(r)
	})
}

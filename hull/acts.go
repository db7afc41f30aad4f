package hull

import (
	"slices"

	"raycone/api"
	"raycone/exact"
	"raycone/flow"
	"raycone/lang"
	"raycone/linear"
	"raycone/wide"
)

// view of a graph by the names of some of its variables.
type view struct{ names []string }

func viewOf(g flow.Graph, c Choice) view {
	v := view{make([]string, len(c))}
	for x, n := range c {
		v.names[x] = g.Vars[n]
	}
	return v
}

func (v view) dim() int { return len(v.names) }

// sum that a term is of the chosen variables.
func (v view) sum(e lang.Expr) (linear.Sum, bool) { return linear.Of(e, v.names, api.MaxEntry) }

// after an act that the graph may have.
func (v view) after(p exact.Poly, a flow.Act) exact.Poly {
	switch x := slices.Index(v.names, a.Name); a.Kind {
	case "read":
		if x >= 0 {
			return v.anything(p, x)
		}
	case "set":
		if x >= 0 {
			return v.set(p, x, a.Args[0])
		}
	case "test", "fail":
		return v.tests(p, a.Tests)
	}
	return p
}

// anything is what x becomes.
func (v view) anything(p exact.Poly, x int) exact.Poly {
	line := make([]int, v.dim()+1)
	line[x] = 1
	return exact.Made(v.dim(), p.Rays, append(slices.Clone(p.Lines), wide.RowOf(line)))
}

// set x to a term. What makes the polyhedron becomes what makes the next one.
func (v view) set(p exact.Poly, x int, e lang.Expr) exact.Poly {
	s, ok := v.sum(e)
	if !ok {
		return v.anything(p, x)
	}
	sum := wide.RowOf(append(s.Times, s.More))
	become := func(l []wide.Row) []wide.Row {
		out := make([]wide.Row, len(l))
		for i, g := range l {
			out[i] = slices.Clone(g)
			out[i][x] = sum.Dot(g)
		}
		return out
	}
	return exact.Made(v.dim(), become(p.Rays), become(p.Lines))
}

// tests all hold.
func (v view) tests(p exact.Poly, l []lang.Test) exact.Poly {
	var rows []api.Row
	for _, t := range l {
		if r, ok := v.row(t, 1); ok && !p.Holds(r) {
			rows = append(rows, r)
		}
	}
	if len(rows) == 0 {
		return p
	}
	up, even := exact.Split(rows)
	return exact.ByRows(v.dim(), slices.Concat(p.Up, up), slices.Concat(p.Even, even))
}

// row that holds where a test does, in which one side is by more below another one that it is less than; false: there is none.
func (v view) row(t lang.Test, more int) (api.Row, bool) {
	a, isSum := v.sum(t.A)
	b, areSums := v.sum(t.B)
	if !isSum || !areSums || t.Rel == "!=" {
		return api.Row{}, false
	}
	if t.Rel == "<" || t.Rel == "<=" {
		a, b = b, a
	}
	over := a.Less(b)
	r := api.Row{Eq: t.Rel == "==", A: over.Times, B: -over.More}
	if t.Rel == "<" || t.Rel == ">" {
		r.B += more
	}
	return r, true
}

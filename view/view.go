// Package view: polyhedra over some of a graph's variables: which there are, and what acts make of them.
package view

import (
	"slices"

	"raycone/api"
	"raycone/exact"
	"raycone/flow"
	"raycone/lang"
	"raycone/linear"
	"raycone/wide"
)

// View of a graph by the names of the variables that are chosen.
type View struct{ names []string }

// Of a graph, of which the choice is one.
func Of(g flow.Graph, choice []int) View {
	v := View{make([]string, len(choice))}
	for x, n := range choice {
		v.names[x] = g.Vars[n]
	}
	return v
}

// Rounds of a graph: a view of what the chosen variables were ahead, and of what they are by now. Ahead they have no names: so no act changes them, or asks of them.
func Rounds(g flow.Graph, choice []int) View {
	return View{append(make([]string, len(choice)), Of(g, choice).names...)}
}

// Dim of its polyhedra.
func (v View) Dim() int { return len(v.names) }

// Sum that a term is of the chosen variables.
func (v View) Sum(e lang.Expr) (linear.Sum, bool) { return linear.Of(e, v.names, api.MaxEntry) }

// Zeros: all variables are 0.
func (v View) Zeros() exact.Poly {
	even := make([]wide.Row, v.Dim())
	for x := range even {
		even[x] = v.only(x)
	}
	return exact.ByRows(v.Dim(), nil, even)
}

// Nothing has no points.
func (v View) Nothing() exact.Poly { return exact.Made(v.Dim(), nil, nil) }

// Everything has all points.
func (v View) Everything() exact.Poly { return exact.ByRows(v.Dim(), nil, nil) }

// Stops for widening: signs, what tests of the graph ask, and a little less; each of them holds one way. Of more than so many the first ones are enough.
func (v View) Stops(g flow.Graph) []wide.Row {
	l := v.Zeros().Ways()
	for _, e := range g.Edges {
		for _, t := range e.Act.Tests {
			for more := range 2 {
				if r, ok := v.Row(t, more); ok && len(l) < 2*api.MaxRows {
					l = withRow(l, r)
				}
			}
		}
	}
	return l
}

// withRow: with each way of a row that is not there yet.
func withRow(l []wide.Row, r api.Row) []wide.Row {
	up, even := exact.Split([]api.Row{r})
	for _, way := range (exact.Poly{Up: up, Even: even}).Ways() {
		if !slices.ContainsFunc(l, func(is wide.Row) bool { return is.Compare(way) == 0 }) {
			l = append(l, way)
		}
	}
	return l
}

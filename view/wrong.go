package view

import (
	"slices"

	"raycone/api"
	"raycone/flow"
	"raycone/poly"
)

// Wrong tells what is wrong with a graph, a choice of its variables, and polyhedra over them. Polyhedra that are wrong in themselves are told ahead of such as do not fit.
func Wrong(g flow.Graph, choice []int, l ...api.Poly) error {
	if err := flow.Valid(g); err != nil {
		return err
	}
	for _, p := range l {
		if err := poly.Valid(p); err != nil {
			return err
		}
	}
	unlike := func(p api.Poly) bool { return p.Dim != len(choice) }
	if !flow.Chosen(g, choice, api.MaxDim) || slices.ContainsFunc(l, unlike) {
		return api.ErrShape
	}
	return nil
}

// WrongTable tells what is wrong with a table of a graph.
func WrongTable(g flow.Graph, choice []int, t []api.Poly) error {
	if err := Wrong(g, choice, t...); err != nil {
		return err
	}
	if len(t) != g.Points {
		return api.ErrShape
	}
	return nil
}

package hull

import (
	"slices"

	"raycone/api"
	"raycone/exact"
	"raycone/flow"
	"raycone/poly"
	"raycone/wide"
)

// stateError: what is wrong with a graph, a choice of its variables, and polyhedra over them. Polyhedra that are wrong in themselves are told ahead of such as do not fit.
func stateError(g flow.Graph, c Choice, l ...api.Poly) error {
	if err := flow.Valid(g); err != nil {
		return err
	}
	for _, p := range l {
		if err := poly.Valid(p); err != nil {
			return err
		}
	}
	unlike := func(p api.Poly) bool { return p.Dim != len(c) }
	if !flow.Chosen(g, c, api.MaxDim) || slices.ContainsFunc(l, unlike) {
		return api.ErrShape
	}
	return nil
}

// tableError: what is wrong with a table of a graph.
func tableError(g flow.Graph, c Choice, t []api.Poly) error {
	if err := stateError(g, c, t...); err != nil {
		return err
	}
	if len(t) != g.Points {
		return api.ErrShape
	}
	return nil
}

// state at a point, or lost: it cannot be told, or not be handed in.
type state struct {
	exact.Poly
	isLost bool
}

// stateOf a polyhedron, which is lost if it is none that poly.Valid takes.
func stateOf(p exact.Poly) state {
	rows, err := p.Rows()
	return state{p, err != nil || poly.Valid(rows) != nil}
}

func statesOf(t []api.Poly) []state {
	l := make([]state, len(t))
	for i, p := range t {
		l[i] = state{Poly: exact.Of(p)}
	}
	return l
}

// told states, none of which is lost.
func told(l []state) ([]api.Poly, error) {
	t := make([]api.Poly, len(l))
	for i, s := range l {
		var err error
		if t[i], err = s.Rows(); err != nil {
			return nil, err
		}
	}
	return t, nil
}

// within: are all points of a, which are not lost, in b?
func within(a, b state) bool {
	fails := func(r wide.Row) bool { return !a.IsUp(r) }
	return !a.isLost && !slices.ContainsFunc(ways(b.Poly), fails)
}

// ways of a polyhedron's rows: each holds one way, so that of an even one there are two.
func ways(p exact.Poly) []wide.Row {
	l := slices.Concat(p.Up, p.Even)
	for _, r := range p.Even {
		l = append(l, r.Each(wide.Num.Negated))
	}
	return l
}

package hull

import (
	"raycone/api"
	"raycone/exact"
	"raycone/flow"
	"raycone/poly"
	"raycone/solve"
	"raycone/view"
)

// state at a point, or lost: it cannot be told, or not be handed in.
type state struct {
	exact.Poly
	isLost bool
}

// stateOf a polyhedron, which is lost if it is none that poly.Valid takes.
func stateOf(p exact.Poly) state {
	rows, err := p.Rows()
	return state{p, err != nil || poly.Valid(rows) != nil}
}

func statesOf(t []api.Poly) []state {
	l := make([]state, len(t))
	for i, p := range t {
		l[i] = state{Poly: exact.Of(p)}
	}
	return l
}

// along an edge: what comes of a polyhedron that is not lost.
func along(v view.View, p exact.Poly, e flow.Edge) state { return stateOf(v.After(p, e.Act)) }

// within: are all points of a, which are not lost, in b?
func within(a, b state) bool { return !a.isLost && a.Within(b.Poly) }

// kind of states, by which it is asked whether a table holds: what comes along an edge may be lost.
func kind(v view.View) solve.Kind[state] {
	return solve.Kind[state]{
		First:  state{Poly: v.Zeros()},
		Go:     func(s state, e flow.Edge) state { return along(v, s.Poly, e) },
		Within: within,
	}
}

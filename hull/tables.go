package hull

import (
	"slices"

	"raycone/api"
	"raycone/exact"
	"raycone/flow"
	"raycone/joins"
	"raycone/solve"
	"raycone/view"
)

// early is how often a loop's head takes what comes back as it is: what hangs together is seen only then.
const early = 2

// scanner of a graph.
type scanner struct {
	view.View
	joins.Joiner
}

// scan a graph. Where ways meet, numbers are kept small if else something is lost further on, and if that helps.
func scan(v view.View, g flow.Graph) ([]exact.Poly, error) {
	s := scanner{v, joins.Joiner{Most: api.MaxEntry, Stops: v.Stops(g)}}
	first, isWhole, err := s.table(g)
	if err != nil || isWhole {
		return first, err
	}
	s.Most = 0
	least, isWhole, err := s.table(g)
	if err != nil || !isWhole {
		return first, err
	}
	s.Most = 1000
	if small, isWhole, err := s.table(g); err != nil || isWhole {
		return small, err
	}
	return least, nil
}

// table of a graph; false: what comes along an edge of it is lost.
func (s scanner) table(g flow.Graph) ([]exact.Poly, bool, error) {
	t, err := s.kind().Table(g)
	if err != nil {
		return nil, false, err
	}
	isLost := func(e flow.Edge) bool { return along(s.View, t[e.From], e).isLost }
	return t, !slices.ContainsFunc(g.Edges, isLost), nil
}

// kind of polyhedra, none of which is lost.
func (s scanner) kind() solve.Kind[exact.Poly] {
	return solve.Kind[exact.Poly]{
		None: s.Nothing(), First: s.Zeros(), Go: s.along,
		Join: s.Join, Widen: s.Widen, Within: exact.Poly.Within, Early: early,
	}
}

// along an edge: what comes of p, or everything, where that is lost.
func (s scanner) along(p exact.Poly, e flow.Edge) exact.Poly {
	if to := along(s.View, p, e); !to.isLost {
		return to.Poly
	}
	return s.Everything()
}

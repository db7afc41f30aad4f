package hull

import (
	"slices"

	"raycone/api"
	"raycone/exact"
	"raycone/flow"
	"raycone/solve"
	"raycone/wide"
)

// early is how often a loop's head takes what comes back as it is: what hangs together is seen only then.
const early = 2

// kind of states, by which it is asked whether a table holds: what an act makes of one may be lost.
func (v view) kind() solve.Kind[state] {
	return solve.Kind[state]{First: v.zeros(), Go: v.step, Within: within}
}

func (v view) step(s state, a flow.Act) state { return stateOf(v.after(s.Poly, a)) }

// lost: what an edge makes of a table's state.
func (v view) lost(t []state, e flow.Edge) bool { return v.step(t[e.From], e.Act).isLost }

// zeros: all variables are 0.
func (v view) zeros() state {
	p := api.Poly{Dim: v.dim()}
	for x := range p.Dim {
		r := api.Row{Eq: true, A: make([]int, p.Dim)}
		r.A[x] = 1
		p.Rows = append(p.Rows, r)
	}
	return state{Poly: exact.Of(p)}
}

func (v view) nothing() state {
	return state{Poly: exact.Of(api.Poly{Dim: v.dim(), Rows: []api.Row{{A: make([]int, v.dim()), B: 1}}})}
}

func (v view) everything() state { return state{Poly: exact.Of(api.Poly{Dim: v.dim()})} }

// scan a graph. Where ways meet, numbers are kept small if else something is lost further on, and if that helps.
func (v view) scan(g flow.Graph) ([]state, error) {
	s := scanner{view: v, most: api.MaxEntry, stops: v.stops(g)}
	first, isWhole, err := s.table(g)
	if err != nil || isWhole {
		return first, err
	}
	s.most = 0
	least, isWhole, err := s.table(g)
	if err != nil || !isWhole {
		return first, err
	}
	s.most = 1000
	if small, isWhole, err := s.table(g); err != nil || isWhole {
		return small, err
	}
	return least, nil
}

// stops for widening: signs, what tests ask, and a little less. Of more than so many the first ones are enough.
func (v view) stops(g flow.Graph) []wide.Row {
	l := ways(v.zeros().Poly)
	for _, e := range g.Edges {
		for _, t := range e.Act.Tests {
			for more := range 2 {
				if r, ok := v.row(t, more); ok && len(l) < 2*api.MaxRows {
					l = withRow(l, r)
				}
			}
		}
	}
	return l
}

// withRow: with each way of a row that is not there yet.
func withRow(l []wide.Row, r api.Row) []wide.Row {
	up, even := exact.Split([]api.Row{r})
	for _, way := range ways(exact.Poly{Up: up, Even: even}) {
		if !slices.ContainsFunc(l, func(is wide.Row) bool { return is.Compare(way) == 0 }) {
			l = append(l, way)
		}
	}
	return l
}

// scanner of a graph.
type scanner struct {
	view
	most  int        // numbers of rows where ways meet, in size
	stops []wide.Row // for widening
}

// table of a graph; false: what an edge makes of it is lost.
func (s scanner) table(g flow.Graph) ([]state, bool, error) {
	t, err := s.kind().Table(g)
	if err != nil {
		return nil, false, err
	}
	isLost := func(e flow.Edge) bool { return s.lost(t, e) }
	return t, !slices.ContainsFunc(g.Edges, isLost), nil
}

// kind of states, none of which is lost.
func (s scanner) kind() solve.Kind[state] {
	return solve.Kind[state]{None: s.nothing(), First: s.zeros(), Go: s.step, Join: s.join, Widen: s.widen, Within: within, Early: early}
}

// step to what an act makes, or to everything, where that is lost.
func (s scanner) step(from state, a flow.Act) state {
	to := s.view.step(from, a)
	if to.isLost {
		return s.everything()
	}
	return to
}

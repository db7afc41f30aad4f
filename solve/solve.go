// Package solve: what holds at each point of a graph, told by states of whatever kind.
package solve

import "raycone/flow"

// Kind of states, and what is done with them.
type Kind[S any] struct {
	None   S                        // nothing comes there
	First  S                        // what is at point 0 when all begins
	Go     func(s S, e flow.Edge) S // what comes of it along an edge
	Join   func(a, b S) S           // one that has both
	Widen  func(a, b S) S           // one that has both; whatever it is widened by, it changes only so often
	Within func(a, b S) bool
	Early  int // how often, at least, what comes to a point is taken as it is, ahead of what it is widened by
}

// Holds tells the first edge of which the table lacks what comes along it (-1: point 0 lacks what is first), or that there is none. The graph is valid, and the table has a state for each point.
func (k Kind[S]) Holds(g flow.Graph, table []S) (int, bool) {
	if !k.Within(k.First, table[0]) {
		return -1, false
	}
	for i, e := range g.Edges {
		if !k.Within(k.Go(table[e.From], e), table[e.To]) {
			return i, false
		}
	}
	return -1, true
}

// Table that holds, of a graph that is valid: None where no way leads from point 0; at any other point but 0 to which one edge leads, just what comes along it. States may share memory.
func (k Kind[S]) Table(g flow.Graph) ([]S, error) {
	order, err := flow.Order(g)
	if err != nil {
		return nil, err
	}
	s := newSolver(k, g, order)
	s.climb()
	s.descend()
	return s.table, nil
}

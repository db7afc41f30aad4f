package solve

import (
	"slices"

	"raycone/flow"
)

const (
	patience = 8  // how often, at least, a point where ways meet again takes what enters it as it is
	rounds   = 10 // of looking for less that holds too
)

// solver of a graph.
type solver[S any] struct {
	Kind[S]
	edges  []flow.Edge
	order  []int
	ins    [][]int // of each point: its edges
	outs   [][]int
	back   []bool // of each edge: it leads back in the order. Each round of a way has such an edge
	head   []bool // of each point: such an edge leads to it
	calm   []int  // of each point: how much patience is left
	early  []int  // of each point: how often it may still take what comes back as it is
	due    []bool // of each point: what comes to it has changed
	table  []S    // of each point
	coming []S    // along each edge, of the table as it is
}

func newSolver[S any](k Kind[S], g flow.Graph, order []int) *solver[S] {
	s := &solver[S]{
		Kind: k, edges: g.Edges, order: order,
		ins: make([][]int, g.Points), outs: make([][]int, g.Points),
		back: make([]bool, len(g.Edges)), head: make([]bool, g.Points),
		calm: slices.Repeat([]int{max(patience, k.Early+1)}, g.Points), early: slices.Repeat([]int{k.Early}, g.Points), due: make([]bool, g.Points),
		table: slices.Repeat([]S{k.None}, g.Points), coming: slices.Repeat([]S{k.None}, len(g.Edges)),
	}
	place := make([]int, g.Points)
	for i, at := range order {
		place[at] = i
	}
	for i, e := range g.Edges {
		s.ins[e.To] = append(s.ins[e.To], i)
		s.outs[e.From] = append(s.outs[e.From], i)
		s.back[i] = place[e.From] >= place[e.To]
		s.head[e.To] = s.head[e.To] || s.back[i]
	}
	return s
}

// climb from nothing on until the table holds.
func (s *solver[S]) climb() {
	s.due[0] = true
	for slices.Contains(s.due, true) {
		s.sweep(s.grown)
	}
}

// descend to less that holds too. What Go makes of less need not be less: so it is looked at anew whether it holds.
func (s *solver[S]) descend() {
	for _, at := range s.order {
		s.due[at] = true
	}
	for range rounds {
		if !slices.Contains(s.due, true) {
			return
		}
		table, coming := slices.Clone(s.table), slices.Clone(s.coming)
		s.sweep(s.needed)
		if !s.holds() {
			s.table, s.coming = table, coming
			return
		}
	}
}

// sweep over all points that are due, in order, each of which becomes what next tells.
func (s *solver[S]) sweep(next func(at int) S) {
	for _, at := range s.order {
		if s.due[at] {
			s.due[at] = false
			s.become(at, next(at))
		}
	}
}

func (s *solver[S]) become(at int, state S) {
	if s.Within(state, s.table[at]) && s.Within(s.table[at], state) {
		return
	}
	s.table[at] = state
	for _, i := range s.outs[at] {
		s.coming[i] = s.Go(state, s.edges[i])
		s.due[s.edges[i].To] = true
	}
}

// grown: what comes to a point. At a head nothing is let go, and what comes back is widened by, so that it ends; what enters is not, as long as there is patience: it may be from a round around this one.
func (s *solver[S]) grown(at int) S {
	if !s.head[at] {
		return s.needed(at)
	}
	state, enters, returns := s.table[at], s.entering(at), s.returning(at)
	switch {
	case s.Within(enters, state):
	case s.calm[at] > 0:
		s.calm[at]--
		state = s.Join(state, enters)
	default:
		state = s.Widen(state, enters)
	}
	switch {
	case s.Within(returns, state):
	case s.early[at] > 0:
		s.early[at]--
		state = s.Join(state, returns)
	default:
		state = s.Widen(state, returns)
	}
	return state
}

// needed: what comes to a point, and no more.
func (s *solver[S]) needed(at int) S { return s.Join(s.entering(at), s.returning(at)) }

// entering a point: what comes, but by edges that lead back.
func (s *solver[S]) entering(at int) S {
	state := s.comingBy(at, false)
	if at == 0 {
		state = s.Join(s.First, state)
	}
	return state
}

func (s *solver[S]) returning(at int) S { return s.comingBy(at, true) }

func (s *solver[S]) comingBy(at int, back bool) S {
	state := s.None
	for _, i := range s.ins[at] {
		if s.back[i] == back {
			state = s.Join(state, s.coming[i])
		}
	}
	return state
}

// holds: does the table, by what comes along its edges?
func (s *solver[S]) holds() bool {
	if !s.Within(s.First, s.table[0]) {
		return false
	}
	for i, e := range s.edges {
		if !s.Within(s.coming[i], s.table[e.To]) {
			return false
		}
	}
	return true
}

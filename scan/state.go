package scan

import (
	"slices"

	"raycone/api"
	"raycone/flow"
	"raycone/interval"
	"raycone/lang"
	"raycone/solve"
)

// isState of a graph that is valid.
func isState(g flow.Graph, s State) bool {
	return flow.Valid(g) == nil && s.fits(g) && s.wrong() == nil
}

// hasTerm: it has a text, and all its names are of the graph.
func hasTerm(g flow.Graph, e lang.Expr) bool {
	// The shortest statement that has a term of its own: whatever its name, it counts for the text alone.
	_, err := lang.Text(lang.Program{Main: []lang.Stmt{{Kind: "set", Name: "x", Args: []lang.Expr{e}}}})
	return err == nil && flow.Knows(g, e)
}

// arrayNumber of a name, or -1.
func arrayNumber(g flow.Graph, name string) int {
	return slices.IndexFunc(g.Arrays, func(a lang.Array) bool { return a.Name == name })
}

// fits a graph: there is one interval for each variable and array, or none of nothing.
func (s State) fits(g flow.Graph) bool {
	if s.None {
		return len(s.Vars)+len(s.Arrays) == 0
	}
	return len(s.Vars) == len(g.Vars) && len(s.Arrays) == len(g.Arrays)
}

// wrong: what is wrong with the first interval with which something is.
func (s State) wrong() error {
	for _, a := range slices.Concat(s.Vars, s.Arrays) {
		if err := interval.Valid(a); err != nil {
			return err
		}
	}
	return nil
}

// fresh: the same in new memory.
func (s State) fresh() State {
	s.Vars, s.Arrays = slices.Clone(s.Vars), slices.Clone(s.Arrays)
	return s
}

func nothing() State { return State{None: true} }

// zeros: all variables and places are 0.
func zeros(g flow.Graph) State {
	return State{Vars: make([]api.Interval, len(g.Vars)), Arrays: make([]api.Interval, len(g.Arrays))}
}

// within: are all states of a in b?
func within(a, b State) bool {
	if a.None || b.None {
		return a.None
	}
	return allWithin(a.Vars, b.Vars) && allWithin(a.Arrays, b.Arrays)
}

func allWithin(a, b []api.Interval) bool {
	for i := range a {
		if is, err := interval.Within(a[i], b[i]); !is || err != nil {
			return false
		}
	}
	return true
}

// paired states: each interval of a with the one of b. Where one is nothing, the other one is all there is.
func paired(a, b State, do func(x, y api.Interval) (api.Interval, error)) State {
	switch {
	case a.None:
		return b
	case b.None:
		return a
	}
	return State{Vars: allPaired(a.Vars, b.Vars, do), Arrays: allPaired(a.Arrays, b.Arrays, do)}
}

// allPaired intervals, which are valid: so that nothing is wrong with what is done.
func allPaired(a, b []api.Interval, do func(x, y api.Interval) (api.Interval, error)) []api.Interval {
	l := make([]api.Interval, len(a))
	for i := range l {
		l[i], _ = do(a[i], b[i])
	}
	return l
}

// kindOf states, for the solver.
func kindOf(g flow.Graph, stops []int) solve.Kind[State] {
	return solve.Kind[State]{
		None:   nothing(),
		First:  zeros(g),
		Go:     func(s State, e flow.Edge) State { return after(g, s, e.Act) },
		Join:   func(a, b State) State { return paired(a, b, interval.Join) },
		Within: within,
		Widen: func(a, b State) State {
			return paired(a, b, func(x, y api.Interval) (api.Interval, error) { return interval.Widen(x, y, stops) })
		},
	}
}

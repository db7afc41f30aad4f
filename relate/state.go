package relate

import (
	"raycone/api"
	"raycone/flow"
	"raycone/octagon"
	"raycone/solve"
)

// stateError: what is wrong with a graph, a choice of its variables, and states over them. Octagons that are wrong in themselves are told ahead of such as do not fit.
func stateError(g flow.Graph, c Choice, l ...State) error {
	if err := flow.Valid(g); err != nil {
		return err
	}
	for _, s := range l {
		if err := octagon.Valid(s.Oct); err != nil {
			return err
		}
	}
	if !flow.Chosen(g, c, api.MaxVars) {
		return api.ErrShape
	}
	for _, s := range l {
		if !s.fits(c) {
			return api.ErrShape
		}
	}
	return nil
}

// fits a choice: nothing needs no octagon.
func (s State) fits(c Choice) bool { return s.Oct.N == len(c) || s.None && s.Oct.N == 0 }

func nothing() State { return State{None: true} }

// told octagon, as a state. What is handed to octagon's calls here is right: so they tell no errors.
func told(o octagon.Octagon, some bool, _ error) State {
	if !some {
		return nothing()
	}
	return State{Oct: o}
}

// closed: the least octagon with the same points, in new memory.
func (s State) closed() State {
	if s.None {
		return nothing()
	}
	return told(octagon.Close(s.Oct))
}

// paired states, neither of which is without points but not None. Where one is nothing, the other one is all there is.
func paired(a, b State, do func(x, y octagon.Octagon) (octagon.Octagon, error)) State {
	switch {
	case a.None:
		return b
	case b.None:
		return a
	}
	o, err := do(a.Oct, b.Oct)
	return told(o, true, err)
}

func join(a, b State) State { return paired(a, b, octagon.Join) }

func widen(a, b State) State { return paired(a, b, octagon.Widen) }

// within: are all points of a in b? Where a has none it is None.
func within(a, b State) bool {
	if a.None || b.None {
		return a.None
	}
	is, _ := octagon.Within(a.Oct, b.Oct)
	return is
}

// kind of states, for the solver.
func (v view) kind() solve.Kind[State] {
	along := func(s State, e flow.Edge) State { return v.after(s, e.Act) }
	return solve.Kind[State]{None: nothing(), First: v.zeros(), Go: along, Join: join, Widen: widen, Within: within}
}

package relate

import (
	"slices"

	"raycone/api"
	"raycone/flow"
	"raycone/linear"
	"raycone/octagon"
	"raycone/scan"
)

// passes over the tests of an act: where one of two sides holds, what comes behind it may tell which.
const passes = 3

// view of a graph by some of its variables.
type view struct {
	names  flow.Graph // its variables and arrays alone
	choice Choice
}

func viewOf(g flow.Graph, c Choice) view {
	return view{flow.Graph{Vars: g.Vars, Arrays: g.Arrays, Points: 1}, c}
}

// place of a name among the chosen ones, or -1.
func (v view) place(name string) int {
	return slices.Index(v.choice, slices.Index(v.names.Vars, name))
}

// zeros: all variables are 0.
func (v view) zeros() State {
	n := len(v.choice)
	var limits []octagon.Limit
	for x := range n {
		limits = append(limits, octagon.Limit{A: 1, X: x}, octagon.Limit{A: -1, X: x})
	}
	return told(octagon.Guards(octagon.Octagon{N: n, L: make([]octagon.Cell, 4*n*n)}, limits...))
}

// after an act that the graph may have: the state, in new memory. It hangs on the points that the state has, not on how it bounds them.
func (v view) after(s State, a flow.Act) State {
	s = s.closed()
	if s.None {
		return s
	}
	switch a.Kind {
	case "read":
		return v.anything(s, a.Name)
	case "set":
		return v.set(s, a)
	case "put":
		return v.byIntervals(s, a)
	case "test", "fail":
		return v.tests(s, a)
	}
	return s
}

// anything is what the variable becomes.
func (v view) anything(s State, name string) State {
	if x := v.place(name); x >= 0 {
		return told(octagon.Forget(s.Oct, x))
	}
	return s
}

func (v view) set(s State, a flow.Act) State {
	x := v.place(a.Name)
	if x < 0 {
		return s
	}
	sum, ok := linear.Of(a.Args[0], v.names.Vars, api.MaxBound)
	if !ok {
		return v.byIntervals(s, a)
	}
	times, ok := v.chosen(sum)
	if !ok {
		return v.anything(s, a.Name)
	}
	sign, y, ok := like(times)
	if !ok {
		return v.byIntervals(s, a)
	}
	return told(octagon.Assign(s.Oct, x, sign, y, sum.More))
}

// tests all hold. What no limits tell is left to intervals.
func (v view) tests(s State, a flow.Act) State {
	var all [][][]octagon.Limit
	for _, t := range a.Tests {
		if rows, ok := v.rows(t); ok {
			all = append(all, rows)
		}
	}
	for range passes {
		before := s
		for _, rows := range all {
			if s = s.guarded(rows); s.None {
				return s
			}
		}
		if slices.Equal(before.Oct.L, s.Oct.L) {
			break
		}
	}
	if len(all) == len(a.Tests) {
		return s
	}
	return v.byIntervals(s, a)
}

// guarded by rows of limits, of one of which each holds.
func (s State) guarded(rows [][]octagon.Limit) State {
	some := nothing()
	for _, row := range rows {
		some = join(some, told(octagon.Guards(s.Oct, row...)))
	}
	return some
}

// byIntervals of the variables alone it is known what else an act makes of a state, which has points.
func (v view) byIntervals(s State, a flow.Act) State {
	to, _ := scan.Go(v.names, v.intervals(s), a)
	if to.None {
		return nothing()
	}
	if a.Kind == "set" {
		s = v.anything(s, a.Name)
	}
	return told(octagon.Guards(s.Oct, v.limits(to)...))
}

// intervals of a state: of what is not chosen nothing is known.
func (v view) intervals(s State) scan.State {
	anything := []api.Interval{{Down: true, Up: true}}
	out := scan.State{Vars: slices.Repeat(anything, len(v.names.Vars)), Arrays: slices.Repeat(anything, len(v.names.Arrays))}
	for x, n := range v.choice {
		out.Vars[n], _, _ = octagon.Bounds(s.Oct, x)
	}
	return out
}

// limits of the chosen variables by their intervals. That one is a value at all tells nothing of it.
func (v view) limits(s scan.State) []octagon.Limit {
	var l []octagon.Limit
	for x, n := range v.choice {
		in := s.Vars[n]
		if !in.Up && in.High < api.MaxValue {
			l = append(l, octagon.Limit{A: 1, X: x, C: in.High})
		}
		if !in.Down && in.Low > -api.MaxValue {
			l = append(l, octagon.Limit{A: -1, X: x, C: -in.Low})
		}
	}
	return l
}

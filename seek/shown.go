package seek

import (
	"raycone/api"
	"raycone/flow"
	"raycone/hull"
	"raycone/poly"
	"raycone/relate"
	"raycone/scan"
)

// hullVars is over how many variables polyhedra are sought.
const hullVars = 3

// shown: is it, that no run goes along an edge?
type shown func(e flow.Edge) bool

// nothing is shown by what cannot be told.
func nothing(flow.Edge) bool { return false }

// names of a graph, without its edges: acts are looked at by these alone, which takes less time.
func names(g flow.Graph) flow.Graph {
	return flow.Graph{Vars: g.Vars, Arrays: g.Arrays, Points: 1}
}

// firsts: so many variables of a graph, or all.
func firsts(g flow.Graph, many int) []int {
	l := make([]int, min(many, len(g.Vars)))
	for i := range l {
		l[i] = i
	}
	return l
}

func byIntervals(g flow.Graph) shown { return byStops(g, nil) }

// byTests: by intervals that rest at numbers of the graph's tests, which may show what others do not, and the other way round.
func byTests(g flow.Graph) shown { return byStops(g, scan.Stops(g)) }

func byStops(g flow.Graph, stops []int) shown {
	t, err := scan.Scan(g, stops)
	if err != nil {
		return nothing
	}
	of := names(g)
	return func(e flow.Edge) bool {
		to, err := scan.Go(of, t[e.From], e.Act)
		return err == nil && to.None
	}
}

func byOctagons(g flow.Graph) shown {
	c := relate.Choice(firsts(g, api.MaxVars))
	t, err := relate.Scan(g, c)
	if err != nil {
		return nothing
	}
	of := names(g)
	return func(e flow.Edge) bool {
		to, err := relate.Go(of, c, t[e.From], e.Act)
		return err == nil && to.None
	}
}

func byPolyhedra(g flow.Graph) shown {
	c := hull.Choice(firsts(g, hullVars))
	t, err := hull.Scan(g, c)
	if err != nil {
		return nothing
	}
	of := names(g)
	return func(e flow.Edge) bool {
		to, err := hull.Go(of, c, t[e.From], e.Act)
		if err != nil {
			return false
		}
		// What has too many rows to be asked is not empty: else it were told by one.
		none, err := poly.Empty(to)
		return err == nil && none
	}
}

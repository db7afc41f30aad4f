package seek

import (
	"slices"

	"raycone/flow"
)

// verdicts on the edges `fail` of a graph that Build made, by so many workers: what is known of the graph is sought first, then each edge is looked at by it.
func verdicts(g flow.Graph, workers int) []Verdict {
	ways := []func(g flow.Graph) shown{byIntervals, byTests, byOctagons, byPolyhedra}
	shows := make([]shown, len(ways))
	var went []bool
	spread(workers, len(ways)+1, func(n int) {
		if n < len(ways) {
			shows[n] = ways[n](g)
		} else {
			went = walked(g)
		}
	})
	l := onFails(g)
	spread(workers, len(l), func(n int) {
		switch e := l[n].Edge; {
		case isSafe(g.Edges[e], shows):
			l[n].Kind = "safe"
		case went[e]:
			l[n].Kind = "fails"
		}
	})
	return l
}

// onFails: a verdict on each edge `fail`, open so far.
func onFails(g flow.Graph) []Verdict {
	var l []Verdict
	for i, e := range g.Edges {
		if e.Act.Kind == "fail" {
			l = append(l, Verdict{Edge: i, Kind: "open"})
		}
	}
	return l
}

func isSafe(e flow.Edge, shows []shown) bool {
	return slices.ContainsFunc(shows, func(is shown) bool { return is(e) })
}

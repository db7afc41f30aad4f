package scan

import (
	"cmp"
	"slices"

	"raycone/api"
	"raycone/flow"
	"raycone/lang"
)

// maxStops that are worth their time.
const maxStops = 20

// Stops of a graph, at which widening may rest: the numbers that its tests name, and those beside them; the least ones, if they are too many; none of a graph that is not valid.
func Stops(g flow.Graph) []int {
	if flow.Valid(g) != nil {
		return nil
	}
	var l []int
	for _, e := range g.Edges {
		for _, t := range e.Act.Tests {
			l = stopsOf(t.B, 1, stopsOf(t.A, 1, l))
		}
	}
	slices.SortFunc(l, func(a, b int) int { return cmp.Or(cmp.Compare(max(a, -a), max(b, -b)), cmp.Compare(a, b)) })
	l = slices.Compact(l)
	return l[:min(len(l), maxStops)]
}

// stopsOf a term behind others, as it is (1) or with a `-` ahead (-1).
func stopsOf(e lang.Expr, sign int, l []int) []int {
	if e.Op == "neg" {
		sign = -sign
	}
	for n := sign*e.N - 1; e.Op == "num" && n <= sign*e.N+1; n++ {
		if n >= -api.MaxBound && n <= api.MaxBound {
			l = append(l, n)
		}
	}
	for _, part := range e.L {
		l = stopsOf(part, sign, l)
	}
	return l
}

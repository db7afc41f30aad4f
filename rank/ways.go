package rank

import (
	"slices"

	"raycone/exact"
	"raycone/flow"
	"raycone/hull"
	"raycone/view"
	"raycone/wide"
)

// mostWays from a head back to it.
const mostWays = 30

// waysOf edges, by their numbers, from a head back to it, that meet no other head, and no point twice; false: there are too many.
func waysOf(g flow.Graph, head int) ([][]int, bool) {
	closed := make([]bool, g.Points)
	for _, at := range g.Heads {
		closed[at] = true
	}
	var ways [][]int
	var walk func(at int, way []int)
	walk = func(at int, way []int) {
		for i, e := range g.Edges {
			switch {
			case e.From != at || len(ways) > mostWays:
			case e.To == head:
				ways = append(ways, append(slices.Clone(way), i))
			// So each step is on a way that is told: else there could be too many to walk them all.
			case leads(g, e.To, head, closed):
				closed[e.To] = true
				walk(e.To, append(way, i))
				closed[e.To] = false
			}
		}
	}
	walk(head, nil)
	return ways, len(ways) <= mostWays
}

// leads: is there a way of edges from a point that is not closed to a head, by such points alone?
func leads(g flow.Graph, from, head int, closed []bool) bool {
	if closed[from] {
		return false
	}
	met := slices.Clone(closed)
	met[from], met[head] = true, false
	due := []int{from}
	for len(due) > 0 && !met[head] {
		at := due[0]
		due = due[1:]
		for _, e := range g.Edges {
			if e.From == at && !met[e.To] {
				met[e.To] = true
				due = append(due, e.To)
			}
		}
	}
	return met[head]
}

// rounds by each of the ways, from what a head has.
func rounds(g flow.Graph, c hull.Choice, has exact.Poly, ways [][]int) []exact.Poly {
	v := view.Rounds(g, c)
	// What is made along the way ahead, edge by edge: the next one often begins in the same way.
	made, last := []exact.Poly{standing(has)}, []int{}
	var l []exact.Poly
	for _, way := range ways {
		made = made[:1+shared(way, last)]
		for _, i := range way[len(made)-1:] {
			made = append(made, v.After(made[len(made)-1], g.Edges[i].Act))
		}
		last = way
		l = append(l, made[len(made)-1])
	}
	return l
}

// shared: how many numbers two lists have alike ahead of the first that is not.
func shared(a, b []int) int {
	n := 0
	for n < min(len(a), len(b)) && a[n] == b[n] {
		n++
	}
	return n
}

// standing: the rounds, from what p has, in which nothing is done.
func standing(p exact.Poly) exact.Poly {
	twice := func(l []wide.Row) []wide.Row {
		out := make([]wide.Row, len(l))
		for i, g := range l {
			out[i] = slices.Concat(g[:p.Dim], g)
		}
		return out
	}
	return exact.Made(2*p.Dim, twice(p.Rays), twice(p.Lines))
}

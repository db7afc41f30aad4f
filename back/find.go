package back

import (
	"slices"

	"raycone/api"
	"raycone/exact"
	"raycone/flow"
	"raycone/hull"
	"raycone/joins"
	"raycone/solve"
	"raycone/view"
)

// finder of what is needed so that a point is come to.
type finder struct {
	view.View
	joins.Joiner
	graph  flow.Graph
	rounds int
}

func finderOf(g flow.Graph, c hull.Choice, rounds int) finder {
	v := view.Of(g, c)
	return finder{v, joins.Joiner{Most: api.MaxEntry, Stops: v.Stops(g)}, g, rounds}
}

// find for each point what is needed there, so that the target is come to with what last has. What is needed ahead of an edge that leads, turned round, from p is told by ahead.
func (f finder) find(target int, last exact.Poly, ahead func(p exact.Poly, turned flow.Edge) exact.Poly) ([]exact.Poly, error) {
	kind := solve.Kind[exact.Poly]{
		None: f.Nothing(), First: last, Go: ahead,
		Join: f.Join, Widen: f.Widen, Within: exact.Poly.Within, Early: f.rounds,
	}
	t, err := kind.Table(turned(f.graph, target))
	if err != nil {
		return nil, err
	}
	return swapped(t, target), nil
}

// ahead of an act: no more rows, and no greater numbers, than can be handed in.
func (f finder) ahead(p exact.Poly, turned flow.Edge) exact.Poly {
	return f.Small(f.Before(p, turned.Act))
}

// turned graph: each edge leads the other way, and the target and point 0 have each other's place, so that all begins at the target.
func turned(g flow.Graph, target int) flow.Graph {
	points := make([]int, g.Points)
	for at := range points {
		points[at] = at
	}
	points = swapped(points, target)
	out := flow.Graph{Points: g.Points}
	for _, e := range g.Edges {
		out.Edges = append(out.Edges, flow.Edge{From: points[e.To], To: points[e.From], Act: e.Act})
	}
	return out
}

// swapped list, in new memory: what stood at 0 and at the other place stand there the other way round.
func swapped[T any](l []T, other int) []T {
	l = slices.Clone(l)
	l[0], l[other] = l[other], l[0]
	return l
}

// work that may be done to blame, told by the rows that are asked of rays: a great graph has many edges, of each of which all points are asked.
const work = 1_000_000

// blamer is a finder that knows of each point what can come there.
type blamer struct {
	finder
	known []exact.Poly
	left  int // work
}

func blamerOf(g flow.Graph, c hull.Choice, table []api.Poly) *blamer {
	b := &blamer{finder: finderOf(g, c, mostRounds), left: work}
	for _, p := range table {
		b.known = append(b.known, exact.Of(p))
	}
	return b
}

// blamed edges fail, of which it is not shown that no run goes along. Each has its share of the work that is left.
func (b *blamer) blamed() ([]int, error) {
	var l, open []int
	for i, e := range b.graph.Edges {
		if e.Act.Kind == "fail" && !b.last(e).Empty() {
			open = append(open, i)
		}
	}
	for n, i := range open {
		safe, err := b.isSafe(b.graph.Edges[i], b.left/(len(open)-n))
		if err != nil {
			return nil, err
		}
		if !safe {
			l = append(l, i)
		}
	}
	return l, nil
}

// last of what a run along an edge has: by what comes to its point.
func (b *blamer) last(e flow.Edge) exact.Poly {
	p := b.Before(b.known[e.From], e.Act)
	if b.Stuck(p, e.Act) {
		return b.Nothing()
	}
	return p
}

// isSafe: no run goes along an edge. What is needed so that one does is looked for among what can come to each point; when its share of the work is done, anything is needed.
func (b *blamer) isSafe(e flow.Edge, share int) (bool, error) {
	known := swapped(b.known, e.From)
	needed, err := b.find(e.From, b.last(e), func(p exact.Poly, turned flow.Edge) exact.Poly {
		if share <= 0 {
			return b.Everything()
		}
		n := 10 + len(p.Rays)*(len(p.Up)+len(p.Even))
		share -= n
		b.left -= n
		return b.among(known[turned.To], b.ahead(p, turned), turned.Act)
	})
	return err == nil && !b.Zeros().Within(needed[0]), err
}

// among what is known, what of it is needed for an act, if both together can be handed in.
func (b *blamer) among(known, needed exact.Poly, a flow.Act) exact.Poly {
	both := needed.Meet(known.Up, known.Even)
	switch {
	case b.Stuck(both, a):
		return b.Nothing()
	case b.IsSmall(both):
		return both
	}
	return needed
}

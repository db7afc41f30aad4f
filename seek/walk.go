package seek

import (
	"raycone/flow"
	"raycone/lang"
	"raycone/machine"
)

const (
	walkSize = 2   // of numbers that walks are given
	walkLong = 200 // edges, at most, of a walk
)

// walker along the edges of a graph.
type walker struct {
	flow.Graph
	deeds  [][]lang.Stmt // of each edge
	fails  [][]int       // of each point: its edges `fail`
	others [][]int       // of each point: its other edges
	went   []bool        // of each edge `fail`: some walk went along it
}

// walked: along which edges `fail` of a graph that Build made some input leads.
func walked(g flow.Graph) []bool {
	w := newWalker(g)
	first(numbers(walkSize), w.walk)
	return w.went
}

func newWalker(g flow.Graph) *walker {
	w := &walker{Graph: g, fails: make([][]int, g.Points), others: make([][]int, g.Points), went: make([]bool, len(g.Edges))}
	for i, e := range g.Edges {
		w.deeds = append(w.deeds, flow.Deeds(e.Act))
		from := w.others
		if e.Act.Kind == "fail" {
			from = w.fails
		}
		from[e.From] = append(from[e.From], i)
	}
	return w
}

// step of a walk: where it stands, with what, and what is not read yet.
type step struct {
	machine.Memory
	at    int
	input []int
	asked bool // there was nothing to read for an edge
}

// walk with an input, until it ends.
func (w *walker) walk(input []int) outcome {
	m, err := machine.NewMemory(w.Vars, w.Arrays)
	if err != nil {
		return ended
	}
	s := &step{Memory: m, input: input}
	for range walkLong {
		if w.fail(s) || !w.move(s) {
			break
		}
	}
	if s.asked {
		return asks
	}
	return ended
}

// fail along each edge that can be taken; false: there is none.
func (w *walker) fail(s *step) bool {
	is := false
	for _, i := range w.fails[s.at] {
		if w.take(s, i) {
			w.went[i], is = true, true
		}
	}
	return is
}

// move along the first other edge that can be taken; false: there is none.
func (w *walker) move(s *step) bool {
	for _, i := range w.others[s.at] {
		if w.take(s, i) {
			s.at = w.Edges[i].To
			return true
		}
	}
	return false
}

// take an edge, if it can be taken: then what it does is done.
func (w *walker) take(s *step, i int) bool {
	if s.Do(w.deeds[i], s.input, 1) != "done" {
		s.asked = s.asked || w.Edges[i].Act.Kind == "read"
		return false
	}
	if w.Edges[i].Act.Kind == "read" {
		s.input = s.input[1:]
	}
	return true
}

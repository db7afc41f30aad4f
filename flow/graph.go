package flow

import (
	"slices"

	"raycone/api"
	"raycone/check"
	"raycone/lang"
	"raycone/machine"
)

// maxEdges of a graph.
const maxEdges = 400

// isLaid: no more points and edges than may be, and each edge and head has its points.
func (g Graph) isLaid() bool {
	if g.Points < 0 || g.Points > api.MaxPoints || len(g.Edges) > maxEdges {
		return false
	}
	for _, e := range g.Edges {
		if !g.hasPoint(e.From) || !g.hasPoint(e.To) {
			return false
		}
	}
	return !slices.ContainsFunc(g.Heads, func(head int) bool { return !g.hasPoint(head) })
}

func (g Graph) hasPoint(at int) bool { return at >= 0 && at < g.Points }

// takes an act: it has just the fields of its kind, and its statement is right.
func (g Graph) takes(a Act) bool { return a.hasItsFields() && check.Check(g.program(a)) == nil }

// knows the names of a term. Of parts no more than left are looked at: no text has as many as it has bytes.
func (g Graph) knows(e lang.Expr, left *int) bool {
	*left--
	hasName := func(a lang.Array) bool { return a.Name == e.Name }
	switch {
	case e.Op == "var" && !slices.Contains(g.Vars, e.Name):
		return false
	case e.Op == "at" && !slices.ContainsFunc(g.Arrays, hasName):
		return false
	}
	for _, part := range e.L {
		if *left <= 0 {
			break
		}
		if !g.knows(part, left) {
			return false
		}
	}
	return true
}

// hasItsFields: those that its kind does not name are zero.
func (a Act) hasItsFields() bool {
	name, args, tests := a.Name != "", len(a.Args) > 0, len(a.Tests) > 0
	switch a.Kind {
	case "skip":
		return !name && !args && !tests
	case "set", "put":
		return !tests
	case "read":
		return !args && !tests
	case "test", "fail":
		return !name && !args
	}
	return false
}

// program that does the act alone.
func (g Graph) program(a Act) lang.Program {
	return lang.Program{Vars: g.Vars, Arrays: g.Arrays, Main: a.deeds()}
}

// deeds: the statements that do the act. With all its tests a run goes along a fail as along a test, else it is stuck.
func (a Act) deeds() []lang.Stmt {
	switch a.Kind {
	case "set", "put", "read":
		return []lang.Stmt{{Kind: a.Kind, Name: a.Name, Args: a.Args}}
	case "test", "fail":
		return []lang.Stmt{{Kind: "assume", Cond: lang.Cond{a.Tests}}}
	}
	return nil
}

// state at a point, and what is read there.
type state struct {
	vars   []int
	arrays [][]int
	input  int
}

// end of an act from a state: done, if its edge can be taken.
func (g Graph) end(a Act, s state) (machine.End, error) {
	return machine.RunFrom(g.program(a), s.vars, s.arrays, []int{s.input}, 1)
}

package scan

import (
	"slices"

	"raycone/api"
	"raycone/flow"
	"raycone/interval"
	"raycone/lang"
)

// view of a graph's state, which is not nothing.
type view struct {
	g flow.Graph
	s State
}

// Seen is what a term can come to, and what its parts can.
type Seen struct {
	Has   api.Interval
	Right bool // false: always something is wrong with it; then Has nothing
	Parts []Seen
}

// node of a term: it, the numbers it can come to, and its parts.
type node struct {
	lang.Expr
	has   api.Interval
	right bool // false: there are no such numbers, as always something is wrong
	parts []node
}

// seen: the node without the term.
func (n node) seen() Seen {
	s := Seen{Has: n.has, Right: n.right}
	for _, part := range n.parts {
		s.Parts = append(s.Parts, part.seen())
	}
	return s
}

// values that a program can have.
func values() api.Interval { return api.Interval{Low: -api.MaxValue, High: api.MaxValue} }

func zero() api.Interval { return api.Interval{} }

// places that an array has.
func places(a lang.Array) api.Interval { return api.Interval{High: a.Size - 1} }

// variable and array of a name, as they stand in the state.
func (v view) variable(name string) *api.Interval { return &v.s.Vars[slices.Index(v.g.Vars, name)] }

func (v view) array(name string) (lang.Array, *api.Interval) {
	i := arrayNumber(v.g, name)
	return v.g.Arrays[i], &v.s.Arrays[i]
}

// look at a term: false: always something is wrong with it.
func (v view) look(e lang.Expr) (node, bool) {
	n := node{Expr: e, right: !v.s.None, parts: make([]node, len(e.L))}
	for i, part := range e.L {
		var ok bool
		n.parts[i], ok = v.look(part)
		n.right = n.right && ok
	}
	if n.right {
		n.has, n.right = v.numbers(n)
	}
	return n, n.right
}

// numbers that a node can come to, by its parts: none too great, as that is wrong on the way, too.
func (v view) numbers(n node) (api.Interval, bool) {
	switch n.Op {
	case "num":
		return api.Interval{Low: n.N, High: n.N}, true
	case "var":
		return meet(*v.variable(n.Name), values())
	case "at":
		array, all := v.array(n.Name)
		if _, ok := meet(n.parts[0].has, places(array)); !ok {
			return api.Interval{}, false
		}
		return meet(*all, values())
	case "neg":
		return made(zero(), "-", n.parts[0].has, values())
	}
	return made(n.parts[0].has, n.Op, n.parts[1].has, values())
}

// meet of two that are valid.
func meet(a, b api.Interval) (api.Interval, bool) {
	x, ok, _ := interval.Meet(a, b)
	return x, ok
}

// made of two that are valid, as far as it is of in.
func made(a api.Interval, sign string, b, in api.Interval) (api.Interval, bool) {
	x, ok, _ := interval.Made(a, sign, b, in)
	return x, ok
}

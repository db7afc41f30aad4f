package scan

import (
	"slices"

	"raycone/api"
	"raycone/flow"
	"raycone/interval"
	"raycone/lang"
)

// passes over the tests of an act: what one tells of a variable may help another one ahead of it.
const passes = 3

// after an act that the graph may have: the state, in new memory.
func after(g flow.Graph, s State, a flow.Act) State {
	if s.None {
		return nothing()
	}
	v := view{g, s.fresh()}
	if !v.act(a) {
		return nothing()
	}
	return v.s
}

// act changes the state: false: nothing comes of it.
func (v view) act(a flow.Act) bool {
	switch a.Kind {
	case "set":
		return v.set(a)
	case "put":
		return v.put(a)
	case "read":
		*v.variable(a.Name) = values()
	case "test", "fail":
		return v.tests(a.Tests)
	}
	return true
}

// right: the terms' nodes, and the state is narrowed to where nothing is wrong with them.
func (v view) right(l []lang.Expr) ([]node, bool) {
	nodes := make([]node, len(l))
	for i, e := range l {
		var ok bool
		if nodes[i], ok = v.look(e); !ok {
			return nil, false
		}
	}
	for _, n := range nodes {
		if !v.narrow(n, n.has) {
			return nil, false
		}
	}
	return nodes, true
}

func (v view) set(a flow.Act) bool {
	l, ok := v.right(a.Args)
	if ok {
		*v.variable(a.Name) = l[0].has
	}
	return ok
}

// put a number into an array: of one with several places the others stay.
func (v view) put(a flow.Act) bool {
	l, ok := v.right(a.Args)
	if !ok {
		return false
	}
	array, all := v.array(a.Name)
	at, ok := meet(l[0].has, places(array))
	if !ok || !v.narrow(l[0], at) {
		return false
	}
	to := l[1].has
	if array.Size > 1 {
		to, _ = interval.Join(*all, to)
	}
	*all = to
	return true
}

// tests all hold.
func (v view) tests(l []lang.Test) bool {
	for range passes {
		before := v.s.fresh()
		for _, t := range l {
			if !v.test(t) {
				return false
			}
		}
		if slices.Equal(before.Vars, v.s.Vars) && slices.Equal(before.Arrays, v.s.Arrays) {
			return true
		}
	}
	return true
}

func (v view) test(t lang.Test) bool {
	a, ok := v.look(t.A)
	if !ok {
		return false
	}
	b, ok := v.look(t.B)
	if !ok {
		return false
	}
	x, y, ok := refined(a.has, b.has, t.Rel)
	return ok && v.narrow(a, x) && v.narrow(b, y)
}

// refined by how a test says that they stand to each other.
func refined(a, b api.Interval, rel string) (x, y api.Interval, ok bool) {
	if rel == "==" {
		rel = "="
	}
	x, y, ok, _ = interval.Refine(a, b, rel)
	return x, y, ok
}

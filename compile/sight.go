package compile

import (
	"raycone/api"
	"raycone/flow"
	"raycone/lang"
	"raycone/scan"
)

// sight: what is known of variables and arrays where something is written; its zero value knows nothing.
type sight struct {
	names flow.Graph // those that the state is of: it has no edges
	state scan.State
	open  bool // false: nothing is known
}

// sights of all statements of p, inlined, by what scan.Scan tells: none, if it tells nothing.
func sights(p lang.Program) []sight {
	g, from, err := flow.Laid(p)
	if err != nil {
		return nil
	}
	t, err := scan.Scan(g, scan.Stops(g))
	if err != nil {
		return nil
	}
	names := flow.Graph{Vars: g.Vars, Arrays: g.Arrays, Points: 1}
	l := make([]sight, len(from))
	for i, at := range from {
		l[i] = sight{names: names, state: t[at], open: true}
	}
	return l
}

// see a term.
func (s sight) see(e lang.Expr) scan.Seen {
	if s.open {
		if seen, err := scan.See(s.names, s.state, e); err == nil {
			return seen
		}
	}
	return unseen(e)
}

// unseen term: it, and each part, can come to anything.
func unseen(e lang.Expr) scan.Seen {
	s := scan.Seen{Has: api.Interval{Down: true, Up: true}, Right: true}
	for _, part := range e.L {
		s.Parts = append(s.Parts, unseen(part))
	}
	return s
}

// where a test holds.
func (s sight) where(t lang.Test) sight {
	if !s.open {
		return s
	}
	to, err := scan.Go(s.names, s.state, flow.Act{Kind: "test", Tests: []lang.Test{t}})
	if err == nil {
		s.state = to
	}
	return s
}

// unless a test holds: where the opposite one does.
func (s sight) unless(t lang.Test) sight { return s.where(flow.Turned(t)) }

// nowhere: nothing comes there.
func (s sight) nowhere() sight {
	s.state = scan.State{None: true}
	return s
}

// or where something else is so.
func (s sight) or(t sight) sight {
	if !s.open {
		return s
	}
	to, err := scan.Join(s.names, s.state, t.state)
	if err != nil {
		return sight{}
	}
	s.state = to
	return s
}

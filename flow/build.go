package flow

import (
	"slices"

	"raycone/api"
	"raycone/fresh"
	"raycone/lang"
)

// relation of two terms, as it is written.
type relation struct{ sign string }

// opposites of relations.
func opposites() map[string]relation {
	return map[string]relation{
		"<": {">="}, ">=": {"<"},
		"<=": {">"}, ">": {"<="},
		"==": {"!="}, "!=": {"=="},
	}
}

// builder of a graph: statements are laid from where it stands.
type builder struct {
	Graph
	at        int
	from      []int // where each statement stands, so far
	opposites map[string]relation
}

// newBuilder of the graph of a program without calls, which it may keep.
func newBuilder(p lang.Program) *builder {
	return &builder{Graph: Graph{Vars: p.Vars, Arrays: p.Arrays, Points: 1}, opposites: opposites()}
}

func (b *builder) isTooMuch() bool { return b.Points > api.MaxPoints || len(b.Edges) > maxEdges }

// point that is new.
func (b *builder) point() int {
	b.Points++
	return b.Points - 1
}

func (b *builder) edge(from, to int, a Act) {
	b.Edges = append(b.Edges, Edge{From: from, To: to, Act: a})
}

// edges to a point, one for each row of a condition.
func (b *builder) edges(to int, kind string, c lang.Cond) {
	for _, row := range c {
		b.edge(b.at, to, Act{Kind: kind, Tests: row})
	}
}

// move to a new point.
func (b *builder) move(a Act) {
	to := b.point()
	b.edge(b.at, to, a)
	b.at = to
}

// enter a new point by the rows of a condition: it is made also where there are none.
func (b *builder) enter(c lang.Cond) {
	to := b.point()
	b.edges(to, "test", c)
	b.at = to
}

// block of statements. What is too much already does not grow: else calls could make very many edges.
func (b *builder) block(l []lang.Stmt) {
	for _, s := range l {
		if b.isTooMuch() {
			return
		}
		b.statement(s)
	}
}

func (b *builder) statement(s lang.Stmt) {
	b.from = append(b.from, b.at)
	switch s.Kind {
	case "assert":
		b.edges(b.point(), "fail", b.opposite(s.Cond))
		b.enter(s.Cond)
	case "assume":
		b.enter(s.Cond)
	case "if":
		b.branches(s)
	case "while":
		b.loop(s)
	default:
		b.move(Act{Kind: s.Kind, Name: s.Name, Args: s.Args})
	}
}

func (b *builder) branches(s lang.Stmt) {
	from := b.at
	b.enter(s.Cond)
	b.block(s.Body)
	ended := b.at
	b.at = from
	b.enter(b.opposite(s.Cond))
	b.block(s.Else)
	both := b.point()
	b.edge(ended, both, Act{Kind: "skip"})
	b.edge(b.at, both, Act{Kind: "skip"})
	b.at = both
}

func (b *builder) loop(s lang.Stmt) {
	b.move(Act{Kind: "skip"})
	head := b.at
	b.from[len(b.from)-1] = head
	b.Heads = append(b.Heads, head)
	b.enter(s.Cond)
	b.block(s.Body)
	b.edge(b.at, head, Act{Kind: "skip"})
	b.at = head
	b.enter(b.opposite(s.Cond))
}

// opposite of a condition, in new memory. One row more than a graph may have edges is enough: there may be as many as no list could hold.
func (b *builder) opposite(c lang.Cond) lang.Cond {
	many := 1
	for _, row := range c {
		many = min(many*len(row), maxEdges+1)
	}
	out := make(lang.Cond, many)
	for i := range out {
		out[i] = b.choice(c, i)
	}
	return out
}

// choice of one test of each row, turned round, by its number: its lowest digit is the last row's.
func (b *builder) choice(c lang.Cond, number int) []lang.Test {
	out := make([]lang.Test, len(c))
	for i, row := range slices.Backward(c) {
		out[i] = turned(row[number%len(row)], b.opposites)
		number /= len(row)
	}
	return out
}

func turned(t lang.Test, opposites map[string]relation) lang.Test {
	t = fresh.Test(t)
	t.Rel = opposites[t.Rel].sign
	return t
}

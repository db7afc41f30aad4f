package solve

import (
	"fmt"
	"math/bits"
	"math/rand"
	"slices"
	"testing"

	"raycone/api"
	"raycone/flow"
	"raycone/lang"
)

// set of the numbers 0 to 15, by bits.
type set uint32

const all set = 1<<16 - 1

func within(a, b set) bool { return a&^b == 0 }

func join(a, b set) set { return a | b }

// act with a number: "add" it, around 16; "below" it; "skip"; "odd": of sets with an odd many, so that less may make more.
func act(kind string, n int) flow.Act {
	return flow.Act{Kind: kind, Args: []lang.Expr{{Op: "num", N: n}}}
}

func edge(from, to int, kind string, n int) flow.Edge {
	return flow.Edge{From: from, To: to, Act: act(kind, n)}
}

func done(s set, a flow.Act) set {
	n := a.Args[0].N
	switch {
	case a.Kind == "add":
		return (s<<n | s>>(16-n)) & all
	case a.Kind == "below":
		return s & (1<<n - 1)
	case a.Kind == "odd" && bits.OnesCount32(uint32(s))%2 == 1:
		return all
	}
	return s
}

func along(s set, e flow.Edge) set { return done(s, e.Act) }

// kind of sets, with a way to widen.
func kind(widen func(a, b set) set) Kind[set] {
	return Kind[set]{None: 0, First: 1, Go: along, Join: join, Widen: widen, Within: within}
}

// coarse: it is everything as soon as there is more.
func coarse(a, b set) set {
	if within(b, a) {
		return a
	}
	if a == 0 {
		return b
	}
	return all
}

// graphs at random, with rounds of all forms, and points to which nothing leads.
func graphs(seed int64, many int, kinds []string, see func(g flow.Graph)) {
	r := rand.New(rand.NewSource(seed))
	for range many {
		g := flow.Graph{Points: 1 + r.Intn(12)}
		for range r.Intn(3 * g.Points) {
			g.Edges = append(g.Edges, flow.Edge{From: r.Intn(g.Points), To: r.Intn(g.Points), Act: act(kinds[r.Intn(len(kinds))], r.Intn(17))})
		}
		see(g)
	}
}

// least table: all that can be come to, number by number.
func least(g flow.Graph) []set {
	t := make([]set, g.Points)
	t[0] = 1
	for again := true; again; {
		again = false
		for _, e := range g.Edges {
			if more := done(t[e.From], e.Act); !within(more, t[e.To]) {
				t[e.To] |= more
				again = true
			}
		}
	}
	return t
}

// reached points: a way of edges leads there from 0.
func reached(g flow.Graph) []bool {
	order, _ := flow.Order(g)
	l := make([]bool, g.Points)
	for _, at := range order {
		l[at] = true
	}
	return l
}

func TestTableIsLeast(t *testing.T) {
	graphs(1, 3000, []string{"add", "below", "skip"}, func(g flow.Graph) {
		table, err := kind(join).Table(g)
		if want := least(g); !slices.Equal(table, want) || err != nil {
			t.Fatal(g, table, err, "want", want)
		}
	})
}

// What is told holds, whatever Go makes, and however coarse it is widened; where nothing leads there is nothing; and one edge leads to just what comes along it.
func TestTableHolds(t *testing.T) {
	for _, kinds := range [][]string{{"add", "below", "skip"}, {"add", "below", "skip", "odd"}} {
		graphs(2, 3000, kinds, func(g flow.Graph) {
			k := kind(coarse)
			table, err := k.Table(g)
			if at, ok := k.Holds(g, table); at != -1 || !ok || err != nil {
				t.Fatal(g, table, at, err)
			}
			for at, is := range reached(g) {
				if !is && table[at] != 0 {
					t.Fatal(g, table, at)
				}
				var ins []flow.Edge
				for _, e := range g.Edges {
					if e.To == at {
						ins = append(ins, e)
					}
				}
				if at > 0 && len(ins) == 1 && table[at] != done(table[ins[0].From], ins[0].Act) {
					t.Fatal(g, table, at)
				}
			}
		})
	}
}

// Less that holds too is found: what was widened too far around a round is cut.
func TestTableDescends(t *testing.T) {
	g := flow.Graph{Points: 4, Edges: []flow.Edge{edge(0, 1, "skip", 0), edge(1, 2, "below", 5), edge(2, 1, "add", 1), edge(1, 3, "skip", 0)}}
	table, err := kind(coarse).Table(g)
	if fmt.Sprint(table) != "[1 63 31 63]" || err != nil {
		t.Error(table, err)
	}
}

// A round in another one: what enters the inner one grows with the outer one, and is not widened for that.
func TestTableIsPatient(t *testing.T) {
	g := flow.Graph{Points: 5, Edges: []flow.Edge{edge(0, 1, "skip", 0), edge(1, 2, "below", 5), edge(2, 3, "skip", 0), edge(3, 2, "skip", 0), edge(3, 4, "skip", 0), edge(4, 1, "add", 1)}}
	table, err := kind(coarse).Table(g)
	if fmt.Sprint(table) != "[1 63 31 31 31]" || err != nil {
		t.Error(table, err)
	}
}

// What comes would grow on and on: widening ends it.
func TestTableEnds(t *testing.T) {
	type count = int
	widened := 0
	k := Kind[count]{
		None: -1, First: 0,
		Go: func(s count, e flow.Edge) count {
			if s < 0 || e.Act.Kind == "skip" {
				return s
			}
			return s + 1
		},
		Join: func(a, b count) count { return max(a, b) },
		Widen: func(a, b count) count {
			widened++
			if b > a && a >= 0 {
				return 1 << 40
			}
			return max(a, b)
		},
		Within: func(a, b count) bool { return a <= b || a >= 1<<40 && b >= 1<<40 },
	}
	g := flow.Graph{Points: 40}
	for i := range 39 {
		g.Edges = append(g.Edges, edge(i, i+1, "add", 1), edge(i+1, i, "add", 1), edge(i, i, "skip", 0))
	}
	table, err := k.Table(g)
	if at, ok := k.Holds(g, table); at != -1 || !ok || err != nil || widened > 1000 {
		t.Error(table, at, ok, err, widened)
	}
}

// What comes back is taken as it is, so often as is told, ahead of what it is widened by.
func TestTableIsEarly(t *testing.T) {
	g := flow.Graph{Points: 2, Edges: []flow.Edge{edge(0, 1, "skip", 0), edge(1, 1, "add", 1)}}
	for early := range 6 {
		var met []set
		k := kind(func(a, b set) set {
			met = append(met, a)
			return coarse(a, b)
		})
		k.Early = early
		table, err := k.Table(g)
		if want := set(1)<<(early+1) - 1; len(met) != 1 || met[0] != want || table[1] != all || err != nil {
			t.Error(early, met, table, err)
		}
	}
}

// Also what enters an inner round, time and again, from a round around it.
func TestTableIsEarlyInside(t *testing.T) {
	g := flow.Graph{Points: 3, Edges: []flow.Edge{edge(0, 1, "skip", 0), edge(1, 2, "skip", 0), edge(2, 2, "skip", 0), edge(2, 1, "add", 1)}}
	for early := range 15 {
		few := 16
		k := kind(func(a, b set) set {
			few = min(few, bits.OnesCount32(uint32(a)))
			return coarse(a, b)
		})
		k.Early = early
		if table, err := k.Table(g); few != early+1 || table[2] != all || err != nil {
			t.Error(early, few, table, err)
		}
	}
}

func TestHolds(t *testing.T) {
	r := rand.New(rand.NewSource(3))
	seen := map[int]int{}
	graphs(4, 3000, []string{"add", "below", "skip"}, func(g flow.Graph) {
		table := least(g)
		for range r.Intn(3) {
			table[r.Intn(len(table))] |= set(r.Intn(int(all) + 1))
		}
		for range r.Intn(2) {
			table[r.Intn(len(table))] &= set(r.Intn(int(all) + 1))
		}
		want := slices.IndexFunc(g.Edges, func(e flow.Edge) bool { return !within(done(table[e.From], e.Act), table[e.To]) })
		if table[0]&1 == 0 {
			want = -2
		}
		at, ok := kind(join).Holds(g, table)
		if ok != (want == -1) || at != max(want, -1) {
			t.Fatal(g, table, at, ok, "want", want)
		}
		seen[min(want, 0)]++
	})
	for _, want := range []int{-2, -1, 0} {
		if seen[want] < 100 {
			t.Error(seen)
		}
	}
}

func TestTableErrors(t *testing.T) {
	for _, g := range []flow.Graph{{Points: -1}, {Points: 1, Edges: []flow.Edge{{From: 1}}}, {Points: 1, Heads: []int{1}}} {
		if table, err := kind(join).Table(g); err != api.ErrShape || len(table) > 0 {
			t.Error(g, table, err)
		}
	}
}

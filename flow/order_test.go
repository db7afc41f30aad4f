package flow

import (
	"fmt"
	"math"
	"math/rand"
	"slices"
	"testing"

	"raycone/api"
)

// ways between points, with acts that nobody asks for.
func ways(points int, l ...int) Graph {
	g := Graph{Points: points}
	for i := 0; i < len(l); i += 2 {
		g.Edges = append(g.Edges, Edge{From: l[i], To: l[i+1]})
	}
	return g
}

// P133: the last one told first.
func TestOrder(t *testing.T) {
	for _, c := range []struct {
		g    Graph
		want string
	}{
		{Graph{}, "[]"},
		{ways(1), "[0]"},
		{ways(3), "[0]"},
		{ways(1, 0, 0), "[0]"},
		{ways(3, 0, 1, 1, 2), "[0 1 2]"},
		{ways(3, 0, 1, 0, 2), "[0 2 1]"},
		{ways(3, 0, 2, 0, 1), "[0 1 2]"},
		{ways(3, 1, 2, 2, 0), "[0]"},
		{ways(4, 0, 1, 0, 2, 1, 3, 2, 3), "[0 2 1 3]"},
		{ways(4, 2, 3, 1, 3, 0, 2, 0, 1), "[0 1 2 3]"},
		{ways(4, 0, 1, 1, 2, 2, 1, 1, 3), "[0 1 3 2]"},
		{ways(4, 0, 1, 1, 3, 1, 2, 2, 1), "[0 1 2 3]"},
		{ways(5, 0, 3, 3, 0, 3, 1, 1, 4, 0, 4), "[0 3 1 4]"},
		{ways(4, 0, 1, 0, 1, 0, 2, 2, 1), "[0 2 1]"},
	} {
		o, err := Order(c.g)
		if got := fmt.Sprint(o); got != c.want || err != nil {
			t.Errorf("%v: %s %v, want %s", c.g, got, err, c.want)
		}
	}
}

// P133: what is no graph; acts, variables and arrays are not asked.
func TestOrderErrors(t *testing.T) {
	wild := ways(2, 0, 1)
	wild.Vars, wild.Arrays, wild.Heads = []string{"", ""}, nil, []int{1, 1}
	wild.Edges[0].Act = Act{Kind: "jump", Name: "?"}
	many := Graph{Points: 1, Edges: make([]Edge, 400)}
	more := Graph{Points: 1, Edges: make([]Edge, 401)}
	for _, c := range []struct {
		g    Graph
		want error
	}{
		{wild, nil}, {many, nil}, {ways(120), nil}, {Graph{Points: 1, Heads: []int{0}}, nil},
		{more, api.ErrShape}, {ways(121), api.ErrShape}, {ways(-1), api.ErrShape}, {ways(math.MinInt), api.ErrShape}, {ways(math.MaxInt), api.ErrShape},
		{ways(0, 0, 0), api.ErrShape}, {Graph{Heads: []int{0}}, api.ErrShape},
		{ways(2, 0, 2), api.ErrShape}, {ways(2, 2, 0), api.ErrShape}, {ways(2, 0, -1), api.ErrShape}, {ways(2, -1, 0), api.ErrShape}, {ways(2, 0, 1, 1, math.MaxInt), api.ErrShape},
		{Graph{Points: 2, Heads: []int{0, 2}}, api.ErrShape}, {Graph{Points: 2, Heads: []int{-1}}, api.ErrShape},
	} {
		o, err := Order(c.g)
		if err != c.want || err != nil && len(o) > 0 {
			t.Errorf("%.200s: %v %v", told(c.g), o, err)
		}
	}
}

// ordered by a list of what is still to be done, from 0 on.
func ordered(g Graph) []int {
	met := map[int]bool{0: true}
	todo, from := []int{0}, []int{0}
	var out []int
	for len(todo) > 0 {
		last := len(todo) - 1
		if from[last] == len(g.Edges) {
			out = append([]int{todo[last]}, out...)
			todo, from = todo[:last], from[:last]
			continue
		}
		e := g.Edges[from[last]]
		from[last]++
		if e.From == todo[last] && !met[e.To] {
			met[e.To] = true
			todo, from = append(todo, e.To), append(from, 0)
		}
	}
	return out
}

// P133: graphs at random, great ones too.
func TestOrderRandom(t *testing.T) {
	r := rand.New(rand.NewSource(1))
	for range 3000 {
		g := Graph{Points: 1 + r.Intn([]int{6, 120}[r.Intn(2)])}
		for range r.Intn(min(3*g.Points, 400)) {
			g.Edges = append(g.Edges, Edge{From: r.Intn(g.Points), To: r.Intn(g.Points)})
		}
		o, err := Order(g)
		if err != nil || !slices.Equal(o, ordered(g)) {
			t.Fatalf("%v: %v %v", g, o, err)
		}
	}
	var long []int
	for i := range 119 {
		long = append(long, i, i+1)
	}
	if o, err := Order(ways(120, long...)); len(o) != 120 || o[119] != 119 || err != nil {
		t.Error(o, err)
	}
}

package relate

import (
	"fmt"
	"slices"
	"strconv"
	"strings"
	"testing"

	"raycone/api"
	"raycone/flow"
	"raycone/lang"
	"raycone/octagon"
)

const most = api.MaxValue

const declared = "var x;var y;var z;var w;array a[3];array b[1];"

// built of a main that has a graph.
func built(t *testing.T, main string) flow.Graph {
	t.Helper()
	p, err := lang.Read(declared + "main{" + main + "}")
	if err != nil {
		t.Fatalf("%.300q: %v", main, err)
	}
	g, err := flow.Build(p)
	if err != nil {
		t.Fatalf("%.300q: %v", main, err)
	}
	return g
}

// names of the tests' programs, without edges.
func names() flow.Graph {
	return flow.Graph{Vars: []string{"x", "y", "z", "w"}, Arrays: []lang.Array{{Name: "a", Size: 3}, {Name: "b", Size: 1}}, Points: 1}
}

// actOf a statement: of assume a test, of assert a fail, of an endless loop a skip.
func actOf(t *testing.T, s string) flow.Act {
	t.Helper()
	return built(t, s).Edges[0].Act
}

// chosen names, as "xz".
func chosen(s string) Choice {
	c := Choice{}
	for _, r := range s {
		c = append(c, strings.IndexRune("xyzw", r))
	}
	return c
}

// flat: no bounds.
func flat(n int) octagon.Octagon {
	return octagon.Octagon{N: n, L: make([]octagon.Cell, 4*n*n)}
}

// readNumber, as 7, -7, M-1 or -M, where M is MaxValue.
func readNumber(s string) int {
	sign, rest, ok := strings.Cut(s, "M")
	if !ok {
		n, err := strconv.Atoi(s)
		if err != nil {
			panic(s)
		}
		return n
	}
	n, _ := strconv.Atoi(sign + "1")
	more, _ := strconv.Atoi(rest)
	return n*most + more
}

// sides of a sum, as x, -x, x+y or -x-y, of chosen names: the columns that mean them.
func sidesOf(of, sum string) []int {
	var l []int
	sign := 0
	for _, r := range sum {
		switch r {
		case '+':
			sign = 0
		case '-':
			sign = 1
		default:
			l, sign = append(l, 2*strings.IndexRune(of, r)+sign), 0
		}
	}
	return l
}

// bound a sum of one side or two.
func bound(o octagon.Octagon, l []int, n int) {
	if len(l) == 1 {
		l, n = []int{l[0], l[0]}, 2*n
	}
	size, i, j := 2*o.N, l[1]^1, l[0]
	o.L[i*size+j] = octagon.Cell{Has: true, Most: n}
	o.L[(j^1)*size+(i^1)] = o.L[i*size+j]
}

// loose state by bounds of the chosen, as "x<=3 x-y=2", as they stand there. "none" is nothing.
func loose(of, s string) State {
	if s == "none" {
		return State{None: true}
	}
	o := flat(len(of))
	for _, f := range strings.Fields(s) {
		sum, number, isMost := strings.Cut(f, "<=")
		if !isMost {
			sum, number, _ = strings.Cut(f, "=")
		}
		l, n := sidesOf(of, sum), readNumber(number)
		bound(o, l, n)
		if isMost {
			continue
		}
		for i := range l {
			l[i] ^= 1
		}
		bound(o, l, -n)
	}
	return State{Oct: o}
}

// state that is closed.
func state(of, s string) State {
	l := loose(of, s)
	if l.None {
		return l
	}
	o, ok, err := octagon.Close(l.Oct)
	if !ok || err != nil {
		panic(s)
	}
	return State{Oct: o}
}

// said: all bounds of a state.
func said(of string, s State) string {
	if s.None {
		return "none"
	}
	name := func(i int) string { return strings.Repeat("-", i%2) + of[i/2:i/2+1] }
	var l []string
	size := 2 * s.Oct.N
	for k, c := range s.Oct.L {
		i, j := k/size, k%size
		switch {
		case !c.Has || i == j || i^1 < j:
		case i^1 == j:
			l = append(l, fmt.Sprintf("2%s<=%d", name(j), c.Most))
		default:
			l = append(l, fmt.Sprintf("%s,%s<=%d", name(j), name(i^1), c.Most))
		}
	}
	return strings.Join(l, " ")
}

func same(a, b State) bool {
	return a.None == b.None && a.Oct.N == b.Oct.N && slices.Equal(a.Oct.L, b.Oct.L)
}

func isZero(s State) bool { return same(s, State{}) }

// P150: the states of these tests, cell by cell.
func TestStates(t *testing.T) {
	m := func(n int) octagon.Cell { return octagon.Cell{Has: true, Most: n} }
	for _, c := range []struct {
		s    State
		want []octagon.Cell
	}{
		{loose("x", "x<=3"), []octagon.Cell{{}, {}, m(6), {}}},
		{loose("x", "-x<=-3"), []octagon.Cell{{}, m(-6), {}, {}}},
		{loose("x", "x=3"), []octagon.Cell{{}, m(-6), m(6), {}}},
		{loose("xy", "x-y<=2"), []octagon.Cell{{}, {}, {}, {}, {}, {}, {}, m(2), m(2), {}, {}, {}, {}, {}, {}, {}}},
		{loose("xy", "-y<=1"), []octagon.Cell{11: m(2), 15: {}}},
		{loose("xy", "x+y<=1"), []octagon.Cell{6: m(1), 12: m(1), 15: {}}},
		{loose("xy", "-x-y<=1"), []octagon.Cell{3: m(1), 9: m(1), 15: {}}},
		{loose("xy", "-x-y<=1"), loose("xy", "-y-x<=1").Oct.L},
		{loose("xy", "x-y=4"), loose("xy", "x-y<=4 -x+y<=-4").Oct.L},
		{loose("xy", "-x-y=4"), loose("xy", "-x-y<=4 x+y<=-4").Oct.L},
		{loose("xy", "x+y=M-1"), loose("xy", "x+y<=M-1 -x-y<=-M+1").Oct.L},
	} {
		if !slices.Equal(c.s.Oct.L, c.want) || octagon.Valid(c.s.Oct) != nil {
			t.Error(c)
		}
	}
}

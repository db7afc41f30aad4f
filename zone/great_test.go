package zone

import (
	"math"
	"math/rand"
	"slices"
	"testing"

	"raycone/api"
)

// great zones, of any many variables, whose bounds are small, or next to MaxBound, or between. Half of them have a point for sure.
func great(r *rand.Rand, n int) Zone {
	z, few, lenient := of(n), 1+r.Intn(4), r.Intn(2) == 0
	p := make([]int, n+1)
	for i := range p[1:] {
		p[i+1] = sized(r)
	}
	for k := range z.L {
		i, j := k/(n+1), k%(n+1)
		if i == j && r.Intn(40) > 0 || r.Intn(few) > 0 {
			continue
		}
		c := Cell{true, sized(r)}
		if lenient {
			c.Most = p[j] - p[i] + r.Intn(4)
		}
		if -most <= c.Most && c.Most <= most {
			z.L[k] = c
		}
	}
	return z
}

// sized: a number of any size up to MaxBound.
func sized(r *rand.Rand) int {
	n := r.Intn(5)
	switch r.Intn(4) {
	case 0:
		n = most - r.Intn(3)
	case 1:
		n = most/2 + r.Intn(3)
	}
	if r.Intn(2) == 0 {
		return -n
	}
	return n
}

// graph: bounds of differences as edges; unbounded: there is none.
type graph [][]int

const unbounded = math.MaxInt

func graphOf(z Zone, more int) graph {
	g := make(graph, z.N+1+more)
	for i := range g {
		for j := range g {
			g[i] = append(g[i], unbounded)
			if i <= z.N && j <= z.N && z.L[i*(z.N+1)+j].Has {
				g[i][j] = z.L[i*(z.N+1)+j].Most
			}
		}
	}
	return g
}

// shortest way from i to j: all ways that come nowhere twice are gone through. From i to i: round, back to it.
func (g graph) shortest(i, j int) int {
	least, been := unbounded, make([]bool, len(g))
	var walk func(at, far int)
	walk = func(at, far int) {
		if g[at][j] != unbounded {
			least = min(least, far+g[at][j])
		}
		for next, edge := range g[at] {
			if edge != unbounded && !been[next] && next != j {
				been[next] = true
				walk(next, far+edge)
				been[next] = false
			}
		}
	}
	been[i] = true
	walk(i, 0)
	return least
}

// least zone of those variables of a graph, as P81 says where a bound is too great; false: it has no point.
func (g graph) least(variables []int) (Zone, bool) {
	for i := range g {
		if g.shortest(i, i) < 0 {
			return Zone{}, false
		}
	}
	z := closed(len(variables) - 1)
	for row, i := range variables {
		for column, j := range variables {
			if far := g.shortest(i, j); i != j && far <= most {
				z.L[row*len(variables)+column] = Cell{true, max(far, -most)}
			}
		}
	}
	return z, true
}

// first n numbers, from 0 on.
func first(n int) []int {
	l := make([]int, n)
	for i := range l {
		l[i] = i
	}
	return l
}

func checkGreat(t *testing.T, name string, given any, z Zone, ok bool, err error, want Zone, is bool) {
	t.Helper()
	if !same(z, want) || ok != is || err != nil {
		t.Fatal(name, given, z, ok, err, "want", want, is)
	}
}

// P81, P83: great zones: no bound is lost on the way, and none is told that is too great.
func TestGreat(t *testing.T) {
	r := rand.New(rand.NewSource(81))
	some := 0
	for range 20000 {
		z := great(r, r.Intn(5))
		want, is := graphOf(z, 0).least(first(z.N + 1))
		got, ok, err := Close(z)
		checkGreat(t, "Close", z, got, ok, err, want, is)
		if is {
			some++
		}
		i, j, c := r.Intn(z.N+1), r.Intn(z.N+1), sized(r)
		g := graphOf(z, 0)
		g[i][j] = min(g[i][j], c)
		want, is = g.least(first(z.N + 1))
		got, ok, err = Guard(z, i, j, c)
		checkGreat(t, "Guard", []any{z, i, j, c}, got, ok, err, want, is)
		if z.N > 0 {
			checkChanges(t, z, 1+r.Intn(z.N), j, c)
		}
	}
	if some < 5000 {
		t.Error("too few have points", some)
	}
}

// checkChanges of x: what it becomes is one variable more, which takes its place.
func checkChanges(t *testing.T, z Zone, x, y, c int) {
	t.Helper()
	places := first(z.N + 1)
	places[x] = z.N + 1
	want, is := graphOf(z, 1).least(places)
	got, ok, err := Forget(z, x)
	checkGreat(t, "Forget", []any{z, x}, got, ok, err, want, is)
	g := graphOf(z, 1)
	g[y][z.N+1], g[z.N+1][y] = c, -c
	want, is = g.least(places)
	got, ok, err = Assign(z, x, y, c)
	checkGreat(t, "Assign", []any{z, x, y, c}, got, ok, err, want, is)
}

// P82, P84: great zones, two of them.
func TestGreatPairs(t *testing.T) {
	r := rand.New(rand.NewSource(86))
	for range 20000 {
		n := r.Intn(5)
		a, b := great(r, n), great(r, n)
		x, some := graphOf(a, 0).least(first(n + 1))
		y, more := graphOf(b, 0).least(first(n + 1))
		g := graphOf(a, 0)
		for i, row := range graphOf(b, 0) {
			for j, far := range row {
				g[i][j] = min(g[i][j], far)
			}
		}
		want, is := g.least(first(n + 1))
		z, ok, err := Meet(a, b)
		checkGreat(t, "Meet", []Zone{a, b}, z, ok, err, want, is)
		want, is = y, more
		if some && more {
			for k, c := range x.L {
				if want.L[k].Most = max(c.Most, y.L[k].Most); !c.Has || !y.L[k].Has {
					want.L[k] = Cell{}
				}
			}
		} else if some {
			want, is = x, some
		}
		if z, err = Join(a, b); !is && err == api.ErrEmpty {
			err = nil
		}
		checkGreat(t, "Join", []Zone{a, b}, z, is, err, want, is)
	}
}

// P81, P82, P85: closed ones have the same points just if they are the same; what is closed stays so.
func TestSamePoints(t *testing.T) {
	r := rand.New(rand.NewSource(87))
	alike := 0
	for range 30000 {
		n := r.Intn(3)
		a, b := great(r, n), great(r, n)
		x, some, _ := Close(a)
		y, more, _ := Close(b)
		in, _ := Within(a, b)
		over, _ := Within(b, a)
		if (in && over) != same(x, y) {
			t.Fatal(a, b, x, y, in, over)
		}
		if same(x, y) {
			alike++
		}
		if more {
			if again, ok, err := Close(y); !ok || err != nil || !same(again, y) {
				t.Fatal(y, again, ok, err)
			}
		}
		if !some {
			continue
		}
		in, _ = Within(a, x)
		over, _ = Within(x, a)
		if !in || !over {
			t.Fatal(a, x, in, over)
		}
	}
	if alike < 1000 {
		t.Error("too few are alike", alike)
	}
}

// P85: each bound that is told is reached by a point; one that is set to minus MaxBound need not be.
func TestReached(t *testing.T) {
	r := rand.New(rand.NewSource(88))
	reached := 0
	for range 5000 {
		z, ok, err := Close(great(r, 1+r.Intn(4)))
		if !ok || err != nil {
			continue
		}
		for k, c := range z.L {
			i, j := k/(z.N+1), k%(z.N+1)
			if !c.Has || c.Most == -most {
				continue
			}
			edge, ok, err := Guard(z, j, i, -c.Most)
			if !ok || err != nil {
				t.Fatal(z, i, j, ok, err)
			}
			if p, near := pointIn(edge); near {
				at := slices.Concat([]int{0}, p)
				if in, err := Has(z, p); !in || err != nil || at[j]-at[i] != c.Most {
					t.Fatal(z, i, j, p, in, err)
				}
				reached++
			}
		}
	}
	if reached < 5000 {
		t.Error("too few are reached", reached)
	}
}

// pointIn a zone that has points: variable by variable, each as near to 0 as it can be; false: that is beyond MaxBound.
func pointIn(z Zone) ([]int, bool) {
	p := make([]int, z.N)
	for x := 1; x <= z.N; x++ {
		b, ok, err := Bounds(z, x)
		if !ok || err != nil {
			return nil, false
		}
		if !b.Down {
			p[x-1] = max(p[x-1], b.Low)
		}
		if !b.Up {
			p[x-1] = min(p[x-1], b.High)
		}
		if z, ok, err = Meet(z, of(z.N, is(x, p[x-1], p[x-1])...)); !ok || err != nil {
			return nil, false
		}
	}
	return p, true
}

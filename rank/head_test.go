package rank

import (
	"fmt"
	"math"
	"slices"
	"strings"
	"testing"

	"raycone/api"
	"raycone/flow"
	"raycone/hull"
	"raycone/lang"
	"raycone/ops"
)

// inForm: each of these loops.
func inForm(t *testing.T, dim int, s string) string {
	t.Helper()
	var l []Loop
	for _, one := range strings.Split(s, " | ") {
		if s != "" {
			l = append(l, formed(t, loop(dim, one)))
		}
	}
	return said(t, l...)
}

// P193: the rounds of one head, in the order of edges.
func TestOfHead(t *testing.T) {
	for _, c := range []struct {
		main   string
		choice hull.Choice
		head   int
		want   string
	}{
		{"x=3;while x>0{x=x-1;}", hull.Choice{0}, 0, "x0 - x1 = 1, -x0 >= -3, x0 >= 1"},
		{"read x;while x>0{x=x-2;}", hull.Choice{0}, 0, "x0 - x1 = 2, x0 >= 1"},
		{"read x;while x>0{if x>5{x=x-2;}else{x=x-1;}}", hull.Choice{0}, 0, "x0 - x1 = 2, x0 >= 6 | x0 - x1 = 1, -x0 >= -5, x0 >= 1"},
		{"read x;read y;while x<y{x=x+1;}", hull.Choice{0, 1}, 0, "x0 - x2 = -1, x1 - x3 = 0, -x0 + x1 >= 1"},
		// Of y nothing is told, and what y is does not come into it.
		{"read x;read y;while x<y{x=x+1;}", hull.Choice{0}, 0, "x0 - x1 = -1"},
		{"read x;read y;while x<y{x=x+1;}", hull.Choice{1}, 0, "x0 - x1 = 0"},
		{"read x;while x>0{read x;}", hull.Choice{0}, 0, "x0 >= 1"},
		{"read x;while x>0{x=x*x;}", hull.Choice{0}, 0, "x0 >= 1"},
		{"read x;while x>0{x=x/2;}", hull.Choice{0}, 0, "x0 >= 1"},
		{"read x;while x*x>0{x=x-1;}", hull.Choice{0}, 0, "x0 - x1 = 1"},
		{"read x;while x!=0{x=x-1;}", hull.Choice{0}, 0, "x0 - x1 = 1"},
		{"read x;while x>0 or x<-4{x=x-1;}", hull.Choice{0}, 0, "x0 - x1 = 1, x0 >= 1 | x0 - x1 = 1, -x0 >= 5"},
		{"read x;while x>0{y=y+x;a[0]=7;x=x-1;}", hull.Choice{0}, 0, "x0 - x1 = 1, x0 >= 1"},
		// No round is ever made.
		{"while x>0{x=x-1;}", hull.Choice{0}, 0, "0 >= 1"},
		{"while true{}", hull.Choice{0}, 0, "x0 = 0, x1 = 0"},
		// Where another loop stands on the way, no way leads back but through its head.
		{"read x;while x>0{y=0;while y<3{y=y+1;}x=x-1;}", hull.Choice{0, 1}, 0, ""},
		{"read x;while x>0{y=0;while y<3{y=y+1;}x=x-1;}", hull.Choice{0}, 1, "x0 - x1 = 0, x0 >= 1"},
		{"read x;while x>0{y=0;if x>9{while y<3{y=y+1;}}x=x-1;}", hull.Choice{0}, 0, "x0 - x1 = 1, -x0 >= -9, x0 >= 1"},
		{"read x;while x>0{x=x-1;assert x>=y;}", hull.Choice{0}, 0, "x0 - x1 = 1, x0 >= 1"},
	} {
		g := built(t, c.main)
		l, err := OfHead(g, c.choice, scanned(t, g, c.choice), g.Heads[c.head])
		if want := inForm(t, len(c.choice), c.want); err != nil || said(t, l...) != want {
			t.Error(c.main, c.choice, said(t, l...), err, want)
		}
	}
}

// P193: the rounds begin in what the table has at the head, whether it holds or not.
func TestOfTable(t *testing.T) {
	g, c := built(t, "read x;while x>0{x=x-1;}"), hull.Choice{0}
	table := everything(g, c)
	for _, k := range [][2]string{
		{"x0 >= 7", "x0 - x1 = 1, x0 >= 7"},
		{"2 x0 = 7", "2 x0 = 7, 2 x1 = 5"},
		{"x0 = 0", "0 >= 1"},
		{"0 >= 1", "0 >= 1"},
		{"", "x0 - x1 = 1, x0 >= 1"},
	} {
		table[g.Heads[0]] = read(1, k[0])
		l, err := OfHead(g, c, table, g.Heads[0])
		if err != nil || said(t, l...) != inForm(t, 1, k[1]) {
			t.Error(k, said(t, l...), err)
		}
	}
}

// around a graph that has just these edges, which skip, of as many points as they name.
func around(heads []int, edges ...[2]int) flow.Graph {
	g := flow.Graph{Vars: []string{"x"}, Points: 1, Heads: heads}
	for _, e := range edges {
		g.Points = max(g.Points, e[0]+1, e[1]+1)
		g.Edges = append(g.Edges, flow.Edge{From: e[0], To: e[1], Act: flow.Act{Kind: "skip"}})
	}
	return g
}

// numbered edges: each sets x to its number, so that it is told which way was gone.
func numbered(g flow.Graph) flow.Graph {
	for i := range g.Edges {
		sum := lang.Expr{Op: "+", L: []lang.Expr{{Op: "*", L: []lang.Expr{{Op: "num", N: 7}, {Op: "var", Name: "x"}}}, {Op: "num", N: i + 1}}}
		g.Edges[i].Act = flow.Act{Kind: "set", Name: "x", Args: []lang.Expr{sum}}
	}
	return g
}

// rounded way of edges that are numbered, of which there are few.
func rounded(way []int) string {
	times, more := 1, 0
	for _, i := range way {
		times, more = 7*times, 7*more+i+1
	}
	return fmt.Sprintf("%d x0 - x1 = %d", times, -more)
}

// allWays from a point to the head, by trying all of them.
func allWays(g flow.Graph, at, head int, met []int, way []int) [][]int {
	var l [][]int
	for i, e := range g.Edges {
		longer := append(slices.Clone(way), i)
		switch {
		case e.From != at:
		case e.To == head:
			l = append(l, longer)
		case !slices.Contains(met, e.To) && !slices.Contains(g.Heads, e.To):
			l = append(l, allWays(g, e.To, head, append(slices.Clone(met), e.To), longer)...)
		}
	}
	return l
}

// P193: all ways that are asked for, in order, and no others; more than 30 are too many.
func TestAlwaysWays(t *testing.T) {
	m, seen := makerOf(11), map[string]int{}
	for range 3000 {
		points := 1 + m.Intn(6)
		var heads []int
		for range 1 + m.Intn(2) {
			heads = append(heads, m.Intn(points))
		}
		g := around(heads)
		g.Points = points
		for range m.Intn(4 * points) {
			g.Edges = append(g.Edges, flow.Edge{From: m.Intn(points), To: m.Intn(points)})
		}
		g = numbered(g)
		head := heads[m.Intn(len(heads))]
		ways := allWays(g, head, head, []int{head}, nil)
		l, err := OfHead(g, hull.Choice{0}, everything(g, hull.Choice{0}), head)
		if len(ways) > mostWays {
			if err != api.ErrBound || len(l) > 0 {
				t.Fatal(g, l, err)
			}
			seen["bound"]++
			continue
		}
		if err != nil || len(l) != len(ways) {
			t.Fatal(g, len(l), len(ways), err)
		}
		for i, way := range ways {
			if l[i].Dim != 1 || said(t, l[i]) != rounded(way) {
				t.Fatal(g, i, said(t, l[i]), way)
			}
		}
		switch {
		case len(ways) > 3:
			seen["many"]++
		case len(ways) > 0:
			seen["few"]++
		}
	}
	if seen["bound"] < 3 || seen["many"] < 100 || seen["few"] < 300 {
		t.Error(seen)
	}
}

// P193: as many ways as there may be, and one more.
func TestManyWays(t *testing.T) {
	var edges [][2]int
	for range mostWays {
		edges = append(edges, [2]int{0, 0})
	}
	g, c := around([]int{0}, edges...), hull.Choice{0}
	if l, err := OfHead(g, c, everything(g, c), 0); len(l) != 30 || err != nil {
		t.Error(len(l), err)
	}
	g = around([]int{0}, append(edges, [2]int{0, 0})...)
	if l, err := OfHead(g, c, everything(g, c), 0); len(l) > 0 || err != api.ErrBound {
		t.Error(len(l), err)
	}
}

// P1: graphs with far more ways than can be walked: such as end elsewhere, such as could come back but for a point that was met, and such as do come back.
func TestWaysEnd(t *testing.T) {
	var fork [][2]int
	for i := 1; i < 100; i += 2 {
		fork = append(fork, [2]int{i, i + 1}, [2]int{i, i + 1}, [2]int{i, i + 2}, [2]int{i + 1, i + 2})
	}
	c := hull.Choice{0}
	for i, k := range []struct {
		edges [][2]int
		want  int
		err   error
	}{
		{append([][2]int{{0, 1}}, fork...), 0, nil},
		{append([][2]int{{0, 1}, {1, 0}}, fork...), 1, nil},
		{append([][2]int{{0, 102}, {102, 1}, {101, 102}, {102, 0}}, fork...), 1, nil},
		{append([][2]int{{0, 1}, {101, 0}}, fork...), 0, api.ErrBound},
	} {
		g := around([]int{0}, k.edges...)
		if l, err := OfHead(g, c, everything(g, c), 0); len(l) != k.want || err != k.err {
			t.Error(i, len(l), err)
		}
	}
}

// P193: what comes of acts that are linear is just what comes, worked out apart: by what x and y are then of what they were, and of what is read.
func TestAlwaysExact(t *testing.T) {
	m, seen := makerOf(12), map[bool]int{}
	for range 1500 {
		acts := make([]string, 1+m.Intn(5))
		reads := 0
		for i := range acts {
			if acts[i] = m.act(); m.Intn(5) == 0 && reads == 0 {
				acts[i] = "read " + m.one("x", "y") + ";"
				reads++
			}
		}
		g := flow.Graph{Vars: []string{"x", "y", "z"}, Arrays: []lang.Array{{Name: "a", Size: 3}}, Points: len(acts), Heads: []int{0}}
		for i, s := range acts {
			g.Edges = append(g.Edges, flow.Edge{From: i, To: (i + 1) % len(acts), Act: actOf(t, s)})
		}
		c := hull.Choice{0, 1}
		table := everything(g, c)
		for range m.Intn(3) {
			table[0].Rows = append(table[0].Rows, api.Row{Eq: m.Intn(4) == 0, A: []int{m.number(3), m.number(3)}, B: m.number(9)})
		}
		l, err := OfHead(g, c, table, 0)
		if err != nil || len(l) != 1 {
			t.Fatal(acts, l, err)
		}
		want := apart(t, g, table[0])
		if said(t, l[0]) != said(t, want) {
			t.Fatal(acts, said(t, Loop{1, table[0].Rows}), said(t, l[0]), said(t, want))
		}
		seen[strings.HasPrefix(said(t, want), "0 >= 1")]++
	}
	if seen[true] < 50 || seen[false] < 500 {
		t.Error(seen)
	}
}

// sum of what x and y were, what was read, and a number.
type sum [4]int

func (s sum) plus(other sum, often int) sum {
	for i, n := range other {
		s[i] += often * n
	}
	return s
}

// apart: the rounds of a graph that is one ring of linear acts over x and y, with one read at most.
func apart(t *testing.T, g flow.Graph, has api.Poly) Loop {
	t.Helper()
	now := map[string]sum{"x": {1, 0, 0, 0}, "y": {0, 1, 0, 0}}
	var of func(e lang.Expr) sum
	of = func(e lang.Expr) sum {
		switch e.Op {
		case "num":
			return sum{3: e.N}
		case "var":
			return now[e.Name]
		case "neg":
			return sum{}.plus(of(e.L[0]), -1)
		case "*":
			return sum{}.plus(of(e.L[1]), of(e.L[0])[3])
		case "-":
			return of(e.L[0]).plus(of(e.L[1]), -1)
		}
		return of(e.L[0]).plus(of(e.L[1]), 1)
	}
	// Rows over what x and y were, what they are, and what was read.
	all := api.Poly{Dim: 5}
	least := func(s sum, isEven bool, more int) {
		all.Rows = append(all.Rows, api.Row{Eq: isEven, A: []int{s[0], s[1], 0, 0, s[2]}, B: more - s[3]})
	}
	for _, r := range has.Rows {
		all.Rows = append(all.Rows, api.Row{Eq: r.Eq, A: []int{r.A[0], r.A[1], 0, 0, 0}, B: r.B})
	}
	for _, e := range g.Edges {
		a := e.Act
		switch {
		case a.Kind == "read" && a.Name != "z":
			now[a.Name] = sum{2: 1}
		case a.Kind == "set" && a.Name != "z":
			now[a.Name] = of(a.Args[0])
		case a.Kind == "test":
			over := of(a.Tests[0].A).plus(of(a.Tests[0].B), -1)
			under := sum{}.plus(over, -1)
			switch a.Tests[0].Rel {
			case "<":
				least(under, false, 1)
			case "<=":
				least(under, false, 0)
			case "==":
				least(over, true, 0)
			case ">=":
				least(over, false, 0)
			case ">":
				least(over, false, 1)
			}
		}
	}
	for i, name := range []string{"x", "y"} {
		s := now[name]
		r := api.Row{Eq: true, A: []int{s[0], s[1], 0, 0, s[2]}, B: -s[3]}
		r.A[2+i] = -1
		all.Rows = append(all.Rows, r)
	}
	p, err := ops.Drop(all, 4)
	if err != nil {
		t.Fatal(all, err)
	}
	return Loop{2, p.Rows}
}

// P193: whatever a run does from the head back to it is a round of the way that it goes, by acts of all kinds.
func TestAlwaysWalk(t *testing.T) {
	m, seen := makerOf(13), 0
	for range 400 {
		body := ""
		for range 1 + m.Intn(4) {
			switch s := m.act(); m.Intn(5) {
			case 0:
				body += "if " + m.term() + m.one("<", "!=", "==") + m.term() + "{" + s + "}else{" + m.act() + "}"
			case 1:
				body += m.one("x=x*y;", "y=x/2;", "x=a[1];", "assume x*y<9;", "assume x!=y;", "a[2]=x;", "read x;", "assert x<9;", "y=x%3;")
			default:
				body += strings.ReplaceAll(s, "while true{}", "")
			}
		}
		g := built(t, "read x;read y;while "+m.term()+m.one("<", "!=", ">=")+m.term()+"{"+body+"}")
		head, c := g.Heads[0], []hull.Choice{{0}, {1}, {0, 1}, {0, 2}}[m.Intn(4)]
		table := scanned(t, g, c)
		l, err := OfHead(g, c, table, head)
		if err == api.ErrBound {
			continue
		}
		ways := allWays(g, head, head, []int{head}, nil)
		if err != nil || len(l) != len(ways) {
			t.Fatal(body, l, err)
		}
		seen += m.walked(t, g, c, l, ways)
	}
	if seen < 1000 {
		t.Error(seen)
	}
}

// walked at random from point 0: how many rounds were made, each of which is in what is told of its way.
func (m maker) walked(t *testing.T, g flow.Graph, c hull.Choice, l []Loop, ways [][]int) int {
	t.Helper()
	at, vars, arrays := 0, make([]int, 3), [][]int{{m.number(9), m.number(9), m.number(9)}}
	var ahead, way []int
	rounds := 0
	for range 120 {
		next, err := flow.Steps(g, at, vars, arrays, m.number(12))
		if err != nil {
			t.Fatal(err)
		}
		if len(next) == 0 {
			break
		}
		n := next[m.Intn(len(next))]
		if at == g.Heads[0] {
			ahead, way = picked(c, vars), nil
		}
		at, vars, arrays, way = n.To, n.Vars, n.Arrays, append(way, n.Edge)
		if at != g.Heads[0] || ahead == nil {
			continue
		}
		i := slices.IndexFunc(ways, func(w []int) bool { return slices.Equal(w, way) })
		x := append(slices.Clone(ahead), picked(c, vars)...)
		if slices.ContainsFunc(x, func(n int) bool { return n > 1<<30 || n < -1<<30 }) {
			break
		}
		if !holds(l[i], x) {
			t.Fatal(g, c, said(t, l[i]), x)
		}
		rounds++
	}
	return rounds
}

func picked(c hull.Choice, vars []int) []int {
	p := make([]int, len(c))
	for i, n := range c {
		p[i] = vars[n]
	}
	return p
}

// holds: is it a round?
func holds(l Loop, x []int) bool {
	for _, r := range l.Rows {
		sum := -r.B
		for i, n := range r.A {
			sum += n * x[i]
		}
		if sum < 0 || r.Eq && sum != 0 {
			return false
		}
	}
	return true
}

// P194: programs with one way round end as soon as the rank tells.
func TestAlwaysEnds(t *testing.T) {
	for _, c := range []struct {
		main string
		want bool
	}{
		{"read x;while x>0{x=x-1;}", true},
		{"read x;while x>0{x=x-3;y=y+x;}", true},
		{"read x;read y;while x<y{x=x+2;y=y+1;}", true},
		{"read x;read y;while x<y{x=x+1;y=y+1;}", false},
		{"read x;read y;while x+y>0{x=x-2;y=y+1;}", true},
		{"read x;while x>0{x=x+1;}", false},
		{"read x;read y;while x>0{x=x+y;y=y-1;}", false},
		{"read x;read y;assume y<0;while x>0{x=x+y;y=y-1;}", true},
		{"read x;read y;while x>0 and y>0{x=x-1;y=y+x;}", true},
		{"x=9;while x>0{y=x;x=y-1;}", true},
	} {
		g, choice := built(t, c.main), hull.Choice{0, 1}
		head := g.Heads[0]
		l, err := OfHead(g, choice, scanned(t, g, choice), head)
		if len(l) != 1 || err != nil {
			t.Fatal(c.main, l, err)
		}
		r, is, err := Find(l[0])
		if is != c.want || err != nil {
			t.Error(c.main, r, is, err)
		}
		if !is {
			continue
		}
		for x := -2; x < 11; x += 2 {
			for y := -3; y < 11; y += 3 {
				checkRun(t, g, r, x, y)
			}
		}
	}
}

// checkRun of a graph with one way round, that reads x and y: how often it comes back to the head is no more than the rank tells.
func checkRun(t *testing.T, g flow.Graph, r Rank, x, y int) {
	t.Helper()
	at, vars, arrays, rounds, most := 0, make([]int, 3), [][]int{{0, 0, 0}}, -1, 0
	for range 1000 {
		if at == g.Heads[0] {
			if rounds++; rounds == 0 {
				most = max(0, (r.F[0]*vars[0]+r.F[1]*vars[1]-r.Low)/r.Fall+1)
			}
		}
		input := y
		if at == 0 {
			input = x
		}
		next, err := flow.Steps(g, at, vars, arrays, input)
		if err != nil {
			t.Fatal(err)
		}
		if len(next) == 0 {
			break
		}
		at, vars, arrays = next[0].To, next[0].Vars, next[0].Arrays
	}
	if rounds > most {
		t.Error(g, r, x, y, rounds, most)
	}
}

// What comes may have more rows than can be handed in, or than poly tells: all of them are told.
func TestManyRows(t *testing.T) {
	g, c := flow.Graph{Vars: []string{"x", "y"}, Points: 4, Heads: []int{0}}, hull.Choice{0, 1}
	table := everything(g, c)
	var tests [2][]lang.Test
	for i := range 3 * api.MaxRows {
		angle := 2 * math.Pi * float64(i) / 3 / api.MaxRows
		a, b := int(1000*math.Cos(angle)), int(1000*math.Sin(angle))
		if i%3 == 2 {
			table[0].Rows = append(table[0].Rows, api.Row{A: []int{a, b}, B: -100_000})
			continue
		}
		p, err := lang.Read(fmt.Sprintf("var x;var y;main{assume %d*x+%d*y>=-100000;}", a, b))
		if err != nil {
			t.Fatal(err)
		}
		tests[i%3] = append(tests[i%3], p.Main[0].Cond[0][0])
	}
	// From everything the tests alone make no more rows than a table may have.
	g.Edges = []flow.Edge{
		{From: 0, To: 1, Act: flow.Act{Kind: "skip"}}, {From: 1, To: 2, Act: flow.Act{Kind: "test", Tests: tests[0]}},
		{From: 2, To: 3, Act: flow.Act{Kind: "test", Tests: tests[1]}}, {From: 3, To: 0, Act: flow.Act{Kind: "read", Name: "x"}},
	}
	l, err := OfHead(g, c, table, 0)
	if len(l) != 1 || err != nil {
		t.Fatal(l, err)
	}
	if last := l[0].Rows[len(l[0].Rows)-1]; len(l[0].Rows) != 3*api.MaxRows+1 || !l[0].Rows[0].Eq || last.Eq {
		t.Error(len(l[0].Rows))
	}
	if _, _, err := Find(l[0]); err != api.ErrBound {
		t.Error(err)
	}
}

package hull

import (
	"slices"
	"strconv"
	"strings"
	"testing"

	"raycone/api"
	"raycone/flow"
	"raycone/wide"
)

// tangents of a paraboloid, one at each point of a grid: the last number is 2 c·x - c·c at least, for each c. None of them follows from the others.
func tangents(dim, first, last int) []api.Row {
	grid := [][]int{{}}
	for range dim - 1 {
		var more [][]int
		for _, c := range grid {
			for n := first; n <= last; n++ {
				more = append(more, append(slices.Clone(c), n))
			}
		}
		grid = more
	}
	var l []api.Row
	for _, c := range grid {
		var r api.Row
		for _, n := range c {
			r.A = append(r.A, -2*n)
			r.B -= n * n
		}
		r.A = append(r.A, 1)
		l = append(l, r)
	}
	return l
}

// mostOf: the greatest number of a row, in size.
func mostOf(r api.Row) int {
	most := 0
	for _, n := range append(slices.Clone(r.A), r.B) {
		most = max(most, n, -n)
	}
	return most
}

// inOrder: rows that are Normal, as a form has them.
func inOrder(dim int, l []api.Row) api.Poly {
	var normal []api.Row
	for _, r := range l {
		ints, _ := append(wide.RowOf(r.A), wide.From(r.B)).Normal().Ints()
		normal = append(normal, api.Row{Eq: r.Eq, A: ints[:dim], B: ints[dim]})
	}
	slices.SortFunc(normal, func(a, b api.Row) int {
		if a.Eq != b.Eq {
			return map[bool]int{true: -1, false: 1}[a.Eq]
		}
		return slices.Compare(append(slices.Clone(a.A), a.B), append(slices.Clone(b.A), b.B))
	})
	return api.Poly{Dim: dim, Rows: normal}
}

// asked rows, in words.
func asked(of string, l []api.Row) string {
	var tests []string
	for _, r := range l {
		s := ""
		for x, n := range r.A {
			if n != 0 {
				s += "+" + strconv.Itoa(n) + "*" + of[x:x+1]
			}
		}
		s = strings.NewReplacer("+-1*", "-", "+1*", "+", "+-", "-").Replace(s)
		tests = append(tests, strings.TrimPrefix(s, "+")+">="+strconv.Itoa(r.B))
	}
	return strings.Join(tests, " and ")
}

// P162: tests leave as many rows as there are, however many, be numbers small or great.
func TestGoAllTests(t *testing.T) {
	for _, c := range []struct{ dim, first, last, times, rows int }{
		{2, -29, 29, 1, 59}, {2, -30, 29, 1, 60}, {2, -30, 30, 1, 61}, {2, -31, 31, 1, 63}, {2, 0, 31, 1, 32},
		{2, -60, 60, 1, 121}, {2, 0, 90, 50, 91},
		{3, -3, 3, 1, 49}, {3, -4, 3, 1, 64}, {3, -4, 4, 1, 81}, {3, 1, 9, 31, 81},
		{4, -1, 2, 1, 64}, {4, 11, 14, 1, 64},
		{5, -1, 1, 1, 81}, {5, 1, 3, 1, 81},
	} {
		of, rows := "xyzwv"[:c.dim], tangents(c.dim, c.first, c.last)
		for _, r := range rows {
			for x := range r.A[:c.dim-1] {
				r.A[x] *= c.times
			}
		}
		want := inOrder(c.dim, rows)
		if len(want.Rows) != c.rows {
			t.Fatal(c, len(want.Rows))
		}
		// Some of the rows may be there from the beginning.
		for _, there := range []int{0, 1, api.MaxRows} {
			p := api.Poly{Dim: c.dim, Rows: rows[:there]}
			for _, kind := range []string{"test", "fail"} {
				act := actOf(t, "assume "+asked(of, rows[there:])+";")
				act.Kind = kind
				got, err := Go(names(), chosen(of), p, act)
				if !same(got, want) || err != nil {
					t.Fatal(c, there, kind, len(got.Rows), err)
				}
			}
		}
	}
}

// P162: of many tests few rows are left, where others follow from these.
func TestGoAllTestsLeaveLess(t *testing.T) {
	rows := asked("xy", tangents(2, -30, 30))
	for _, c := range []struct{ test, want string }{
		{"y<=0", "y = 0, 2x >= -1, 2x <= 1"},
		{"y<=-1", "none"},
		{"y<0", "none"},
		{"x==7", "x = 7, y >= 49"},
		{"2*x==15", "2x = 15, y >= 56"},
		{"y==2*x-1", "y = 2x -1, 2x >= 1, 2x <= 3"},
		{"x>=30", "x >= 30, y >= 60x -900"},
	} {
		got, err := Go(names(), chosen("xy"), api.Poly{Dim: 2}, actOf(t, "assume "+rows+" and "+c.test+";"))
		if !same(got, formed("xy", c.want)) || err != nil {
			t.Error(c, said("xy", got), err)
		}
	}
}

// ring of 12 whole points around 0, so far away that all of them are corners.
func ring() [][]int {
	return [][]int{{5, 0}, {4, 3}, {3, 4}, {0, 5}, {-3, 4}, {-4, 3}, {-5, 0}, {-4, -3}, {-3, -4}, {0, -5}, {3, -4}, {4, -3}}
}

// funnels: low*x is at least c·(y, z) - most, and high*x at most most - d·(w, v), for all c and d of a ring.
func funnels(low, high, most int) api.Poly {
	p := api.Poly{Dim: 5}
	for _, c := range ring() {
		p.Rows = append(p.Rows, api.Row{A: []int{low, -c[0], -c[1], 0, 0}, B: -most}, api.Row{A: []int{-high, 0, 0, -c[0], -c[1]}, B: -most})
	}
	return p
}

// withoutX funnels leave a row for each two: high*c·(y, z) and low*d·(w, v) are together (high+low)*most at most. None follows from the others.
func withoutX(low, high, most int) []api.Row {
	var l []api.Row
	for _, c := range ring() {
		for _, d := range ring() {
			l = append(l, api.Row{A: []int{0, -high * c[0], -high * c[1], -low * d[0], -low * d[1]}, B: -(high + low) * most})
		}
	}
	return l
}

// P162: without a variable, or with another one for it, as many rows are told as come, be numbers small or great.
func TestGoAllRows(t *testing.T) {
	for _, c := range []struct {
		low, high, most int
		small           bool // as the document has it
	}{{1, 1, 1, true}, {1, 1, 500, true}, {3, 2, 99, true}, {7, 13, 50, true}, {7, 13, 51, false}, {1001, 1000, 7, false}, {100003, 100019, 1 << 31, false}} {
		p, rows := funnels(c.low, c.high, c.most), withoutX(c.low, c.high, c.most)
		great := func(r api.Row) bool { return mostOf(r) > 1000 }
		if slices.ContainsFunc(slices.Concat(p.Rows, rows), great) == c.small {
			t.Fatal(c)
		}
		equal := func(b int, a ...int) api.Row { return api.Row{Eq: true, A: a, B: b} }
		for act, more := range map[string][]api.Row{
			"read x;":   nil,
			"x=x*y;":    nil,
			"x=a[0];":   nil,
			"x=w;":      {equal(0, 1, 0, 0, -1, 0)},
			"x=9-3*v;":  {equal(9, 1, 0, 0, 0, 3)},
			"x=y-z+10;": {equal(10, 1, -1, 1, 0, 0)},
			"x=1000;":   {equal(1000, 1, 0, 0, 0, 0)},
		} {
			want := inOrder(5, append(slices.Clone(rows), more...))
			if len(want.Rows) != 144+len(more) {
				t.Fatal(len(want.Rows))
			}
			got, err := Go(names(), chosen("xyzwv"), p, actOf(t, act))
			if !same(got, want) || err != nil {
				t.Error(c, act, len(got.Rows), err)
			}
		}
		// Of a variable that is left nothing is lost.
		form, err := Go(names(), chosen("xyzwv"), p, flow.Act{Kind: "skip"})
		if !same(form, inOrder(5, p.Rows)) || err != nil {
			t.Error(c, form, err)
		}
		back, err := Go(names(), chosen("xyzwv"), p, actOf(t, "x=-x;"))
		var turned []api.Row
		for _, r := range p.Rows {
			turned = append(turned, api.Row{A: append([]int{-r.A[0]}, r.A[1:]...), B: r.B})
		}
		if !same(back, inOrder(5, turned)) || err != nil {
			t.Error(c, back, err)
		}
	}
}

// P162: however many rows come, what has a too great number is not told.
func TestGoAllRowsTooGreat(t *testing.T) {
	const great = 1<<31 - 1
	for act, want := range map[string]error{"read x;": api.ErrBound, "x=x*y;": api.ErrBound, "x=y+1;": api.ErrBound, "x=x+1;": nil, "read z;": nil} {
		p, err := Go(names(), chosen("xyzwv"), funnels(great, great-2, great-1), actOf(t, act))
		if err != want || err != nil && !isZero(p) || err == nil && len(p.Rows) < 12 {
			t.Error(act, len(p.Rows), err)
		}
	}
}

// P163: more rows than can be handed in are lost to tables, also if Go tells them.
func TestLostMany(t *testing.T) {
	for name, c := range map[string]struct {
		reads, main string
		lost        int // edge
	}{
		"tests":       {"xy", "assume " + asked("xy", tangents(2, -30, 30)) + ";", 2},
		"read":        {"xyzwv", "assume " + asked("xyzwv", funnels(1, 1, 100).Rows) + ";read x;", 6},
		"set":         {"xyzwv", "assume " + asked("xyzwv", funnels(1, 1, 100).Rows) + ";x=y;", 6},
		"set, no sum": {"xyzwv", "assume " + asked("xyzwv", funnels(1, 1, 100).Rows) + ";x=x*y;", 6},
	} {
		main := ""
		for _, x := range strings.Split(c.reads, "") {
			main += "read " + x + ";"
		}
		g, of := built(t, main+c.main), chosen(c.reads)
		tab, err := Scan(g, of)
		if err != nil || len(tab[len(tab)-1].Rows) > 0 {
			t.Fatal(name, tab, err)
		}
		e := g.Edges[c.lost]
		if p, err := Go(g, of, tab[e.From], e.Act); err != nil || len(p.Rows) < 61 || c.lost != len(g.Edges)-1 {
			t.Error(name, len(p.Rows), err)
		}
		if edge, ok, err := Holds(g, of, tab); edge != 0 || ok || err != api.ErrBound {
			t.Error(name, edge, ok, err)
		}
	}
}

package exact

import (
	"fmt"
	"math"
	"math/rand"
	"testing"

	"raycone/api"
	"raycone/wide"
)

func least(b int, a ...int) api.Row { return api.Row{A: a, B: b} }

func same(b int, a ...int) api.Row { return api.Row{Eq: true, A: a, B: b} }

func both(t *testing.T, p Poly) string {
	t.Helper()
	rows, err := p.Rows()
	if err != nil {
		t.Error(err)
	}
	gens, err := p.Gens()
	if err != nil {
		t.Error(err)
	}
	return fmt.Sprint(rows, gens)
}

func hullOf(g api.Gens) (api.Poly, error) {
	rays, lines := Makers(g)
	return Hull(g.Dim, rays, lines)
}

// A polyhedron has both its forms; and of its generators come its rows.
func TestBothForms(t *testing.T) {
	for _, c := range []struct {
		p    api.Poly
		want string
	}{
		{api.Poly{}, "{0 []} {0 [{[] 1}] [] []}"},
		{api.Poly{Dim: 1}, "{1 []} {1 [{[0] 1}] [] [[1]]}"},
		{api.Poly{Rows: []api.Row{least(1)}}, "{0 [{false [] 1}]} {0 [] [] []}"},
		{api.Poly{Dim: 2, Rows: []api.Row{same(1, 1, 0), same(2, 2, 0), same(3, 1, 0)}}, "{2 [{false [0 0] 1}]} {2 [] [] []}"},
		{api.Poly{Dim: 1, Rows: []api.Row{least(2, 4), least(-9, -3), least(0, 1)}}, "{1 [{false [-1] -3} {false [2] 1}]} {1 [{[1] 2} {[3] 1}] [] []}"},
		{api.Poly{Dim: 2, Rows: []api.Row{least(3, 1, 1), least(-3, -1, -1), least(0, 0, 7)}}, "{2 [{true [1 1] 3} {false [0 1] 0}]} {2 [{[3 0] 1}] [[-1 1]] []}"},
		{api.Poly{Dim: 2, Rows: []api.Row{least(1, 1, 2)}}, "{2 [{false [1 2] 1}]} {2 [{[0 1] 2}] [[0 1]] [[2 -1]]}"},
	} {
		p := Of(c.p)
		if got := both(t, p); got != c.want {
			t.Error(c.p, got)
		}
		rows, _ := p.Rows()
		gens, _ := p.Gens()
		if got, err := hullOf(gens); fmt.Sprint(got) != fmt.Sprint(rows) || err != nil {
			t.Error(gens, got, err)
		}
	}
}

// Generators that are needless, or together something else.
func TestHull(t *testing.T) {
	for _, c := range []struct {
		g    api.Gens
		want string
	}{
		{api.Gens{}, "{0 [{false [] 1}]}"},
		{api.Gens{Dim: 1, Rays: [][]int{{1}}, Lines: [][]int{{1}}}, "{1 [{false [0] 1}]}"},
		{api.Gens{Dim: 1, Points: []api.Point{{X: []int{4}, Den: 2}, {X: []int{2}, Den: 1}}}, "{1 [{true [1] 2}]}"},
		{api.Gens{Dim: 1, Points: []api.Point{{X: []int{4}, Den: 2}, {X: []int{1}, Den: 1}}, Rays: [][]int{{3}, {0}, {1}}}, "{1 [{false [1] 1}]}"},
		{api.Gens{Dim: 2, Points: []api.Point{{X: []int{1, 5}, Den: 3}}, Rays: [][]int{{2, 0}, {-4, 0}}}, "{2 [{true [0 3] 5}]}"},
		{api.Gens{Dim: 2, Points: []api.Point{{X: []int{0, 0}, Den: 1}, {X: []int{2, 0}, Den: 1}, {X: []int{1, 0}, Den: 1}, {X: []int{0, 2}, Den: 1}}, Rays: [][]int{{0, 1}, {1, 1}, {1, 2}}}, "{2 [{false [-1 1] -2} {false [0 1] 0} {false [1 0] 0}]}"},
	} {
		if got, err := hullOf(c.g); fmt.Sprint(got) != c.want || err != nil {
			t.Error(c.g, got, err)
		}
	}
}

// corners on a curve have as many sides.
func corners(n int) []wide.Row {
	var l []wide.Row
	for i := range n {
		l = append(l, wide.RowOf([]int{i, i * i, 1}))
	}
	return l
}

// As many rows as can be told are told, and one more is an error.
func TestHullMany(t *testing.T) {
	up, aside := wide.RowOf([]int{0, 1, 0}), wide.RowOf([]int{1, 1000, 0})
	for _, c := range []struct {
		rays []wide.Row
		want int
	}{
		{corners(59), 59},
		{corners(60), 60},
		{corners(61), 0},
		{corners(62), 0},
		{corners(300), 0},
		// The side at the top goes, two stand in its place.
		{append(corners(59), up), 60},
		{append(corners(60), up), 0},
		{append(corners(61), up), 0},
		// Between two rays the endless row bounds the cone of these, and is not told.
		{append(corners(59), up, aside), 60},
		{append(corners(60), up, aside), 0},
		{append(corners(61), up, aside), 0},
		{append([]wide.Row{aside, up}, corners(59)...), 60},
		{append([]wide.Row{aside, up}, corners(60)...), 0},
		{append([]wide.Row{aside, up}, corners(61)...), 0},
	} {
		p, err := Hull(2, c.rays, nil)
		if len(p.Rows) != c.want || (err == nil) != (c.want > 0) || err != nil && err != api.ErrBound {
			t.Error(len(c.rays), len(p.Rows), err)
		}
	}
}

// Made of needless generators, too, a polyhedron has both its forms; if few rows are asked for, only if it has no more.
func TestMade(t *testing.T) {
	r := rand.New(rand.NewSource(2))
	some := func(most, dim int) [][]int {
		l := make([][]int, r.Intn(most))
		for i := range l {
			for range dim {
				l[i] = append(l[i], r.Intn(7)-3)
			}
		}
		return l
	}
	for range 1500 {
		g := api.Gens{Dim: r.Intn(5)}
		for _, x := range some(8, g.Dim) {
			g.Points = append(g.Points, api.Point{X: x, Den: 1 + r.Intn(3)})
		}
		g.Rays, g.Lines = some(3, g.Dim), some(2, g.Dim)
		rows, err := hullOf(g)
		if err != nil {
			t.Fatal(g, err)
		}
		rays, lines := Makers(g)
		given := fmt.Sprint(rays, lines)
		if p := Made(g.Dim, rays, lines); both(t, p) != both(t, Of(rows)) {
			t.Fatal(g, both(t, p), both(t, Of(rows)))
		}
		for _, most := range []int{len(rows.Rows) - 1, len(rows.Rows), api.MaxMany} {
			p, ok := FewMade(g.Dim, rays, lines, most)
			// Nothing at all is told whatever is the most.
			if want := most >= len(rows.Rows) || len(g.Points) == 0; ok != want {
				t.Fatal(g, most, ok)
			}
			if ok && both(t, p) != both(t, Of(rows)) {
				t.Fatal(g, both(t, p), both(t, Of(rows)))
			}
		}
		if now := fmt.Sprint(rays, lines); now != given {
			t.Fatal(given, now)
		}
	}
	for many, want := range map[int]bool{59: true, 60: true, 61: false, 200: false} {
		if p, ok := FewMade(2, corners(many), nil, 60); ok != want || ok && len(p.Up) != many {
			t.Error(many, ok, len(p.Up))
		}
		if p := Made(2, corners(many), nil); len(p.Up) != many || len(p.Rays) != many {
			t.Error(many, len(p.Up), len(p.Rays))
		}
	}
}

// However many rows are told in form; or no more than can be told of any polyhedron.
func TestAllRows(t *testing.T) {
	for many, want := range map[int]error{3: nil, 59: nil, 60: nil, 61: api.ErrBound, 200: api.ErrBound} {
		p := Made(2, corners(many), nil)
		all, err := p.AllRows()
		if len(all.Rows) != many || all.Dim != 2 || err != nil {
			t.Error(many, len(all.Rows), err)
		}
		if again, _ := Of(all).AllRows(); fmt.Sprint(again) != fmt.Sprint(all) {
			t.Error(many, again, all)
		}
		rows, err := p.Rows()
		if err != want || err == nil && fmt.Sprint(rows) != fmt.Sprint(all) || err != nil && (rows.Dim != 0 || len(rows.Rows) > 0) {
			t.Error(many, rows, err)
		}
	}
	// A number that cannot be told, among few and among many.
	for _, many := range []int{3, 100} {
		p := Made(2, append(corners(many), wide.Row{wide.From(1), wide.From(math.MinInt), wide.From(1)}), nil)
		if all, err := p.AllRows(); err != api.ErrBound || all.Dim != 0 || len(all.Rows) > 0 {
			t.Error(many, all, err)
		}
	}
}

func TestHolds(t *testing.T) {
	strip := Of(api.Poly{Dim: 2, Rows: []api.Row{least(1, 1, 0), least(-2, -1, 0)}})
	quarter := Of(api.Poly{Dim: 2, Rows: []api.Row{least(1, 1, 0), least(0, 0, 1)}})
	none := Of(api.Poly{Dim: 2, Rows: []api.Row{least(1, 0, 0)}})
	for _, c := range []struct {
		p    Poly
		r    api.Row
		want bool
	}{
		{strip, least(1, 1, 0), true},
		{strip, least(0, 1, 0), true},
		{strip, least(2, 1, 0), false},
		{strip, same(1, 1, 0), false},
		{strip, least(-9, 1, 1), false},
		{strip, least(-9, 1, -1), false},
		{strip, least(-1, 0, 0), true},
		{strip, same(0, 0, 0), true},
		{strip, least(1, 0, 0), false},
		{quarter, least(1, 1, 1), true},
		{quarter, least(1, 1, -1), false},
		{quarter, least(1, 2, 3), true},
		{quarter, same(0, 0, 1), false},
		{none, same(7, 3, 4), true},
		{none, least(1, 0, 0), true},
	} {
		if got := c.p.Holds(c.r); got != c.want {
			t.Error(c.p, c.r, got)
		}
	}
	if strip.Empty() || quarter.Empty() || !none.Empty() {
		t.Error(strip.Empty(), quarter.Empty(), none.Empty())
	}
}

// No call changes what the polyhedron has: asked again, it tells the same, in new memory.
func TestToldAgain(t *testing.T) {
	r := rand.New(rand.NewSource(1))
	for range 200 {
		p := api.Poly{Dim: 1 + r.Intn(3)}
		for range r.Intn(6) {
			row := api.Row{Eq: r.Intn(6) == 0, B: r.Intn(9) - 6}
			for range p.Dim {
				row.A = append(row.A, r.Intn(7)-3)
			}
			p.Rows = append(p.Rows, row)
		}
		e := Of(p)
		want := both(t, e)
		rows, _ := e.Rows()
		for _, row := range rows.Rows {
			row.A = append(row.A, 99)
			row.A[0] = 99
		}
		gens, _ := e.Gens()
		for _, x := range gens.Points {
			x.X = append(x.X, 99)
			x.X[0] = 99
		}
		e.Holds(least(1, make([]int, p.Dim)...))
		if got := both(t, e); got != want {
			t.Fatal(p, got, want)
		}
	}
}

// Rows one way: an even one has two. Of these, and of more rows, hangs what lies within what.
func TestWays(t *testing.T) {
	segment := Of(api.Poly{Dim: 2, Rows: []api.Row{same(2, 1, 1), least(0, 1, 0), least(-3, -1, 0)}})
	if got := fmt.Sprint(ints(t, segment.Ways())); got != "[[0 -1 2] [0 1 1] [1 1 -2] [-1 -1 2]]" {
		t.Error(got)
	}
	if n := len(Of(api.Poly{Dim: 2}).Ways()); n > 0 {
		t.Error(n)
	}
	up, even := Split([]api.Row{least(1, 1, 0), same(1, 0, 1)})
	point := segment.Meet(up, even)
	if got := both(t, point); got != "{2 [{true [1 0] 1} {true [0 1] 1}]} {2 [{[1 1] 1}] [] []}" {
		t.Error(got)
	}
	nothing, all := Of(api.Poly{Dim: 2, Rows: []api.Row{least(1, 0, 0)}}), Of(api.Poly{Dim: 2})
	for i, l := 0, []Poly{nothing, point, segment, all}; i < len(l); i++ {
		for k := range l {
			if l[i].Within(l[k]) != (i <= k) {
				t.Error(i, k)
			}
		}
	}
	if p := all.Meet(nil, nil); !p.Within(all) || !all.Within(p) {
		t.Error(p)
	}
}

func ints(t *testing.T, l []wide.Row) [][]int {
	t.Helper()
	var out [][]int
	for _, r := range l {
		row, ok := r.Ints()
		if !ok {
			t.Fatal(r)
		}
		out = append(out, row)
	}
	return out
}

// All of a list are told, or none.
func TestTellList(t *testing.T) {
	one := Of(api.Poly{Dim: 1, Rows: []api.Row{same(3, 1)}})
	great := Made(1, []wide.Row{{wide.From(api.MaxTold).Plus(wide.From(1)), wide.From(1)}}, nil)
	if l, err := Tell([]Poly{one, {}, one}); fmt.Sprint(l) != "[{1 [{true [1] 3}]} {0 []} {1 [{true [1] 3}]}]" || err != nil {
		t.Error(l, err)
	}
	if l, err := Tell([]Poly{one, great}); len(l) > 0 || err != api.ErrBound {
		t.Error(l, err)
	}
	if l, err := Tell(nil); len(l) > 0 || err != nil {
		t.Error(l, err)
	}
}

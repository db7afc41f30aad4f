package exact

import (
	"fmt"
	"math/rand"
	"testing"

	"raycone/api"
)

func least(b int, a ...int) api.Row { return api.Row{A: a, B: b} }

func same(b int, a ...int) api.Row { return api.Row{Eq: true, A: a, B: b} }

func both(t *testing.T, p Poly) string {
	t.Helper()
	rows, err := p.Rows()
	if err != nil {
		t.Error(err)
	}
	gens, err := p.Gens()
	if err != nil {
		t.Error(err)
	}
	return fmt.Sprint(rows, gens)
}

// A polyhedron has both its forms, whichever way it comes in.
func TestBothForms(t *testing.T) {
	for _, c := range []struct {
		p    api.Poly
		want string
	}{
		{api.Poly{}, "{0 []} {0 [{[] 1}] [] []}"},
		{api.Poly{Dim: 1}, "{1 []} {1 [{[0] 1}] [] [[1]]}"},
		{api.Poly{Rows: []api.Row{least(1)}}, "{0 [{false [] 1}]} {0 [] [] []}"},
		{api.Poly{Dim: 2, Rows: []api.Row{same(1, 1, 0), same(2, 2, 0), same(3, 1, 0)}}, "{2 [{false [0 0] 1}]} {2 [] [] []}"},
		{api.Poly{Dim: 1, Rows: []api.Row{least(2, 4), least(-9, -3), least(0, 1)}}, "{1 [{false [-1] -3} {false [2] 1}]} {1 [{[1] 2} {[3] 1}] [] []}"},
		{api.Poly{Dim: 2, Rows: []api.Row{least(3, 1, 1), least(-3, -1, -1), least(0, 0, 7)}}, "{2 [{true [1 1] 3} {false [0 1] 0}]} {2 [{[3 0] 1}] [[-1 1]] []}"},
		{api.Poly{Dim: 2, Rows: []api.Row{least(1, 1, 2)}}, "{2 [{false [1 2] 1}]} {2 [{[0 1] 2}] [[0 1]] [[2 -1]]}"},
	} {
		p := Of(c.p)
		if got := both(t, p); got != c.want {
			t.Error(c.p, got)
		}
		gens, _ := p.Gens()
		if got := both(t, OfGens(gens)); got != c.want {
			t.Error(gens, got)
		}
	}
}

// Generators that are needless, or together something else.
func TestOfGens(t *testing.T) {
	for _, c := range []struct {
		g    api.Gens
		want string
	}{
		{api.Gens{Dim: 1, Rays: [][]int{{1}}, Lines: [][]int{{1}}}, "{1 [{false [0] 1}]} {1 [] [] []}"},
		{api.Gens{Dim: 1, Points: []api.Point{{X: []int{4}, Den: 2}, {X: []int{2}, Den: 1}}}, "{1 [{true [1] 2}]} {1 [{[2] 1}] [] []}"},
		{api.Gens{Dim: 1, Points: []api.Point{{X: []int{4}, Den: 2}, {X: []int{1}, Den: 1}}, Rays: [][]int{{3}, {0}, {1}}}, "{1 [{false [1] 1}]} {1 [{[1] 1}] [[1]] []}"},
		{api.Gens{Dim: 2, Points: []api.Point{{X: []int{1, 5}, Den: 3}}, Rays: [][]int{{2, 0}, {-4, 0}}}, "{2 [{true [0 3] 5}]} {2 [{[0 5] 3}] [] [[1 0]]}"},
		{api.Gens{Dim: 2, Points: []api.Point{{X: []int{0, 0}, Den: 1}, {X: []int{2, 0}, Den: 1}, {X: []int{1, 0}, Den: 1}, {X: []int{0, 2}, Den: 1}}, Rays: [][]int{{0, 1}, {1, 1}, {1, 2}}}, "{2 [{false [-1 1] -2} {false [0 1] 0} {false [1 0] 0}]} {2 [{[0 0] 1} {[2 0] 1}] [[0 1] [1 1]] []}"},
	} {
		if got := both(t, OfGens(c.g)); got != c.want {
			t.Error(c.g, got)
		}
	}
}

func TestHolds(t *testing.T) {
	strip := Of(api.Poly{Dim: 2, Rows: []api.Row{least(1, 1, 0), least(-2, -1, 0)}})
	quarter := Of(api.Poly{Dim: 2, Rows: []api.Row{least(1, 1, 0), least(0, 0, 1)}})
	none := Of(api.Poly{Dim: 2, Rows: []api.Row{least(1, 0, 0)}})
	for _, c := range []struct {
		p    Poly
		r    api.Row
		want bool
	}{
		{strip, least(1, 1, 0), true},
		{strip, least(0, 1, 0), true},
		{strip, least(2, 1, 0), false},
		{strip, same(1, 1, 0), false},
		{strip, least(-9, 1, 1), false},
		{strip, least(-9, 1, -1), false},
		{strip, least(-1, 0, 0), true},
		{strip, same(0, 0, 0), true},
		{strip, least(1, 0, 0), false},
		{quarter, least(1, 1, 1), true},
		{quarter, least(1, 1, -1), false},
		{quarter, least(1, 2, 3), true},
		{quarter, same(0, 0, 1), false},
		{none, same(7, 3, 4), true},
		{none, least(1, 0, 0), true},
	} {
		if got := c.p.Holds(c.r); got != c.want {
			t.Error(c.p, c.r, got)
		}
	}
	if strip.Empty() || quarter.Empty() || !none.Empty() {
		t.Error(strip.Empty(), quarter.Empty(), none.Empty())
	}
}

// No call changes what the polyhedron has: asked again, it tells the same, in new memory.
func TestToldAgain(t *testing.T) {
	r := rand.New(rand.NewSource(1))
	for range 200 {
		p := api.Poly{Dim: 1 + r.Intn(3)}
		for range r.Intn(6) {
			row := api.Row{Eq: r.Intn(6) == 0, B: r.Intn(9) - 6}
			for range p.Dim {
				row.A = append(row.A, r.Intn(7)-3)
			}
			p.Rows = append(p.Rows, row)
		}
		e := Of(p)
		want := both(t, e)
		rows, _ := e.Rows()
		for _, row := range rows.Rows {
			row.A = append(row.A, 99)
			row.A[0] = 99
		}
		gens, _ := e.Gens()
		for _, x := range gens.Points {
			x.X = append(x.X, 99)
			x.X[0] = 99
		}
		e.Holds(least(1, make([]int, p.Dim)...))
		if got := both(t, e); got != want {
			t.Fatal(p, got, want)
		}
	}
}

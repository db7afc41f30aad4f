package poly

import (
	"fmt"
	"math"
	"slices"
	"sync"
	"testing"

	"raycone/api"
)

const (
	most = api.MaxEntry
	over = api.MaxEntry + 1
)

func least(b int, a ...int) api.Row { return api.Row{A: a, B: b} }

func same(b int, a ...int) api.Row { return api.Row{Eq: true, A: a, B: b} }

func point(den int, x ...int) api.Point { return api.Point{X: x, Den: den} }

func poly(dim int, rows ...api.Row) api.Poly { return api.Poly{Dim: dim, Rows: rows} }

func many[T any](n int, x T) []T { return slices.Repeat([]T{x}, n) }

const nothing, nothingOfGens = "{0 []}", "{0 [] [] []}"

// checkCalls holds the errors of all calls on p against the one that Valid tells, and what comes with an error against nothing.
func checkCalls(t *testing.T, p api.Poly, want error) {
	t.Helper()
	check := func(name string, got any, zero string, err error) {
		t.Helper()
		if err != want || err != nil && fmt.Sprint(got) != zero {
			t.Errorf("%s of %v: %v %v, want %v", name, p, got, err, want)
		}
	}
	check("valid", nil, "<nil>", Valid(p))
	form, err := Form(p)
	check("form", form, nothing, err)
	empty, err := Empty(p)
	check("empty", empty, "false", err)
	has, err := Has(p, point(1, make([]int, min(max(p.Dim, 0), 9))...))
	check("has", has, "false", err)
	within, err := Within(p, p)
	check("within", within, "false", err)
	gens, err := Generate(p)
	check("generate", gens, nothingOfGens, err)
	text, err := Text(p)
	check("text", text, "", err)
}

// P30.
func TestValid(t *testing.T) {
	for _, c := range []struct {
		p    api.Poly
		want error
	}{
		{poly(0), nil},
		{poly(5), nil},
		{poly(0, least(0), api.Row{}, api.Row{A: []int{}}), nil},
		{poly(2, least(0, 1, 2), same(-5, 3, 4)), nil},
		{poly(2, least(most, most, -most), same(-most, -most, most)), nil},
		{poly(1, many(24, least(0, 1))...), nil},
		{poly(-1), api.ErrBound},
		{poly(6), api.ErrBound},
		{poly(math.MinInt), api.ErrBound},
		{poly(math.MaxInt), api.ErrBound},
		{poly(1, many(25, least(0, 1))...), api.ErrBound},
		{poly(1, least(0)), api.ErrShape},
		{poly(1, least(0, 1, 2)), api.ErrShape},
		{poly(2, least(0, 1, 2), same(0, 1)), api.ErrShape},
		{poly(0, least(0, 1)), api.ErrShape},
		{poly(1, least(over, 1)), api.ErrBound},
		{poly(1, same(-over, 1)), api.ErrBound},
		{poly(2, least(0, 1, over)), api.ErrBound},
		{poly(2, least(0, 1, 0), least(0, -over, 1)), api.ErrBound},
		{poly(0, least(math.MinInt)), api.ErrBound},
		{poly(1, least(0, math.MinInt)), api.ErrBound},
		{poly(1, same(math.MaxInt, 1)), api.ErrBound},
		// The first error that is so is told.
		{poly(6, least(0, 1)), api.ErrBound},
		{poly(1, many(25, least(0))...), api.ErrBound},
		{poly(1, least(over, 1), least(0)), api.ErrShape},
		{poly(1, least(0, over, over)), api.ErrShape},
	} {
		checkCalls(t, c.p, c.want)
	}
}

// P30, P33.
func TestValidGens(t *testing.T) {
	origin := many(1, point(1, 0))
	for _, c := range []struct {
		g    api.Gens
		want error
	}{
		{api.Gens{}, nil},
		{api.Gens{Dim: 5}, nil},
		{api.Gens{Points: many(3, point(2)), Rays: [][]int{nil, {}}, Lines: [][]int{{}}}, nil},
		{api.Gens{Dim: 1, Points: many(8, point(1, 1)), Rays: many(8, []int{1}), Lines: many(8, []int{1})}, nil},
		{api.Gens{Dim: 2, Points: []api.Point{point(most, most, -most)}, Rays: [][]int{{-most, most}}, Lines: [][]int{{most, 1}}}, nil},
		{api.Gens{Dim: -1}, api.ErrBound},
		{api.Gens{Dim: 6}, api.ErrBound},
		{api.Gens{Dim: math.MaxInt}, api.ErrBound},
		{api.Gens{Dim: 1, Points: many(25, point(1, 1))}, api.ErrBound},
		{api.Gens{Dim: 1, Rays: many(25, []int{1})}, api.ErrBound},
		{api.Gens{Dim: 1, Lines: many(25, []int{1})}, api.ErrBound},
		{api.Gens{Dim: 1, Points: many(9, point(1, 1)), Rays: many(8, []int{1}), Lines: many(8, []int{1})}, api.ErrBound},
		{api.Gens{Dim: 1, Points: many(1, point(1))}, api.ErrShape},
		{api.Gens{Dim: 1, Points: many(1, point(1, 1, 1))}, api.ErrShape},
		{api.Gens{Dim: 1, Points: many(1, point(0, 1))}, api.ErrShape},
		{api.Gens{Dim: 1, Points: []api.Point{point(1, 1), point(-1, 1)}}, api.ErrShape},
		{api.Gens{Dim: 1, Points: many(1, point(math.MinInt, 1))}, api.ErrShape},
		{api.Gens{Points: many(1, point(0))}, api.ErrShape},
		{api.Gens{Dim: 1, Points: origin, Rays: [][]int{{}}}, api.ErrShape},
		{api.Gens{Dim: 1, Points: origin, Lines: [][]int{{1}, {1, 2}}}, api.ErrShape},
		{api.Gens{Dim: 1, Points: many(1, point(1, over))}, api.ErrBound},
		{api.Gens{Dim: 1, Points: many(1, point(over, 1))}, api.ErrBound},
		{api.Gens{Dim: 1, Points: many(1, point(1, math.MinInt))}, api.ErrBound},
		{api.Gens{Dim: 1, Points: origin, Rays: [][]int{{-over}}}, api.ErrBound},
		{api.Gens{Dim: 1, Points: origin, Lines: [][]int{{over}}}, api.ErrBound},
		// Also without points, of which nothing comes.
		{api.Gens{Dim: 1, Lines: [][]int{{over}}}, api.ErrBound},
		{api.Gens{Dim: 1, Rays: [][]int{{}}}, api.ErrShape},
		// The first error that is so is told.
		{api.Gens{Dim: 6, Rays: [][]int{{}}}, api.ErrBound},
		{api.Gens{Dim: 1, Points: many(25, point(0))}, api.ErrBound},
		{api.Gens{Dim: 1, Points: many(1, point(1, over)), Lines: [][]int{{}}}, api.ErrShape},
		{api.Gens{Dim: 1, Points: []api.Point{point(1, over), point(0, 1)}}, api.ErrShape},
	} {
		if got := ValidGens(c.g); got != c.want {
			t.Error(c.g, got, c.want)
		}
		p, err := Constrain(c.g)
		if err != c.want || err != nil && fmt.Sprint(p) != nothing {
			t.Error(c.g, p, err)
		}
	}
}

func textOf(t *testing.T, p api.Poly) string {
	t.Helper()
	s, err := Text(p)
	if err != nil {
		t.Fatal(p, err)
	}
	return s
}

func readAs(t *testing.T, dim int, s string) api.Poly {
	t.Helper()
	p, err := Read(dim, s)
	if err != nil {
		t.Fatal(s, err)
	}
	return p
}

// P31: what was worked out by hand.
func TestForm(t *testing.T) {
	for _, c := range []struct {
		dim        int
		rows, want string
	}{
		// Nothing at all has one row, whatever told so.
		{0, "0 >= 1\n", "0 >= 1\n"},
		{0, "0 = 7\n", "0 >= 1\n"},
		{2, "0 = -1\n", "0 >= 1\n"},
		{2, "0 >= 5\nx0 = 3\n", "0 >= 1\n"},
		{1, "x0 = 1\nx0 = 2\n", "0 >= 1\n"},
		{1, "x0 >= 1\n-x0 >= 0\n", "0 >= 1\n"},
		{2, "x0 + x1 >= 3\n-x0 >= -1\n-x1 >= -1\n", "0 >= 1\n"},
		{2, "x0 - x1 >= 1\n-x0 + x1 >= 0\n", "0 >= 1\n"},
		// Rows that ask for nothing.
		{0, "", ""},
		{0, "0 >= 0\n0 = 0\n0 >= -4\n", ""},
		{3, "0 >= 0\n0 = 0\n0 >= -4\n", ""},
		// Normal together with B, in order.
		{1, "6 x0 >= 4\n", "3 x0 >= 2\n"},
		{1, "-4 x0 >= 6\n", "-2 x0 >= 3\n"},
		{1, "7 x0 >= 0\n", "x0 >= 0\n"},
		{1, "4 x0 = 6\n", "2 x0 = 3\n"},
		{1, "-4 x0 = 6\n", "2 x0 = -3\n"},
		{2, "x0 >= 1\nx1 >= 1\n-x0 >= -9\n-x1 >= -9\n", "-x0 >= -9\n-x1 >= -9\nx1 >= 1\nx0 >= 1\n"},
		// Rows with Eq come of rows without, and are reduced.
		{1, "x0 >= 1\n-x0 >= -1\n", "x0 = 1\n"},
		{2, "x0 + x1 >= 3\n-2 x0 - 2 x1 >= -6\n", "x0 + x1 = 3\n"},
		{2, "x0 + x1 = 3\nx0 - x1 = 2\n", "2 x0 = 5\n2 x1 = 1\n"},
		{2, "x1 = 2\nx0 + x1 = 2\n2 x0 = 0\n", "x0 = 0\nx1 = 2\n"},
		{2, "x0 >= 0\nx1 >= 0\n-x0 - x1 >= 0\n", "x0 = 0\nx1 = 0\n"},
		{3, "x0 + x1 + x2 = 6\nx0 - x1 = 0\n", "2 x0 + x2 = 6\n2 x1 + x2 = 6\n"},
		{3, "x0 >= 1\nx1 >= 2\nx2 >= 0\n-x0 - x1 >= -3\n", "x0 = 1\nx1 = 2\nx2 >= 0\n"},
		// The others have 0 in the columns of pivots.
		{2, "x0 + x1 = 2\nx0 >= 1\n", "x0 + x1 = 2\n-x1 >= -1\n"},
		{2, "2 x0 - 3 x1 = 1\nx0 >= 5\n", "2 x0 - 3 x1 = 1\nx1 >= 3\n"},
		{2, "2 x0 - 3 x1 = 1\nx0 >= 6\n", "2 x0 - 3 x1 = 1\n3 x1 >= 11\n"},
		{2, "x0 = 4\nx0 + x1 >= 1\nx1 >= -3\nx0 >= 2\n", "x0 = 4\nx1 >= -3\n"},
		// None without which the same points are left.
		{1, "x0 >= 1\nx0 >= 1\n2 x0 >= 2\nx0 >= 0\n", "x0 >= 1\n"},
		{2, "x0 >= 0\nx1 >= 0\nx0 + x1 >= 0\nx0 + x1 >= -1\n2 x0 + x1 >= 0\n", "x1 >= 0\nx0 >= 0\n"},
		{2, "x0 >= 0\nx1 >= 0\nx0 + x1 >= 1\n", "x1 >= 0\nx0 >= 0\nx0 + x1 >= 1\n"},
		{2, "x0 >= 0\n-x0 >= -2\nx1 >= 0\n-x1 >= -2\n-x0 - x1 >= -4\n", "-x0 >= -2\n-x1 >= -2\nx1 >= 0\nx0 >= 0\n"},
		{2, "x0 >= 0\n-x0 >= -2\nx1 >= 0\n-x1 >= -2\n-x0 - x1 >= -3\n", "-x0 - x1 >= -3\n-x0 >= -2\n-x1 >= -2\nx1 >= 0\nx0 >= 0\n"},
		{2, "x0 >= 0\n-x0 >= -5\n", "-x0 >= -5\nx0 >= 0\n"},
		// Fractions count: between them lies no whole number.
		{1, "3 x0 >= 1\n-3 x0 >= -2\n", "-3 x0 >= -2\n3 x0 >= 1\n"},
	} {
		form, err := Form(readAs(t, c.dim, c.rows))
		if err != nil || form.Dim != c.dim || textOf(t, form) != c.want {
			t.Errorf("%q: %v %v, want %q", c.rows, form, err, c.want)
			continue
		}
		again, err := Form(form)
		if fmt.Sprint(again) != fmt.Sprint(form) || err != nil {
			t.Error(form, again, err)
		}
	}
	for dim := range 6 {
		form, err := Form(poly(dim, least(1, make([]int, dim)...)))
		if len(form.Rows) != 1 || form.Rows[0].Eq || len(form.Rows[0].A) != dim || form.Rows[0].B != 1 || err != nil {
			t.Error(dim, form, err)
		}
	}
}

// P31, P33: numbers up to MaxTold are told, and none above it, whatever lies between.
func TestGreat(t *testing.T) {
	bent := func(b int) api.Poly { return poly(2, same(b, 1, most), same(most, 0, 1)) }
	steep := poly(3, least(0, 1, -most, 0), least(0, 0, 1, -most), least(1, 0, 0, 1), least(-1, 0, 0, -1), least(-most, -1, 0, 0))
	for _, c := range []struct {
		p          api.Poly
		form, gens string
	}{
		{bent(0), "{2 [{true [1 0] -4611686018427387904} {true [0 1] 2147483648}]}", "{2 [{[-4611686018427387904 2147483648] 1}] [] []}"},
		{bent(-1), "bound", "bound"},
		{bent(1), "{2 [{true [1 0] -4611686018427387903} {true [0 1] 2147483648}]}", "{2 [{[-4611686018427387903 2147483648] 1}] [] []}"},
		// Rows can be told, but not what makes them.
		{poly(2, least(-1, 1, most), least(most, 0, 1)), "{2 [{false [0 1] 2147483648} {false [1 2147483648] -1}]}", "bound"},
		{poly(3, least(0, 1, -most, 0), least(0, 0, 1, -most), least(1, 0, 0, 1)), "{3 [{false [0 0 1] 1} {false [0 1 -2147483648] 0} {false [1 -2147483648 0] 0}]}", "{3 [{[4611686018427387904 2147483648 1] 1}] [[1 0 0] [2147483648 1 0] [4611686018427387904 2147483648 1]] []}"},
		// Nothing is told of what is cut off.
		{steep, "{3 [{false [0 0 0] 1}]}", "{3 [] [] []}"},
		{poly(1, least(most, most), least(-most, -most)), "{1 [{true [1] 1}]}", "{1 [{[1] 1}] [] []}"},
		{poly(1, same(-most, most-1)), "{1 [{true [2147483647] -2147483648}]}", "{1 [{[-2147483648] 2147483647}] [] []}"},
	} {
		form, err := Form(c.p)
		checkTold(t, c.form, form, nothing, err)
		gens, err := Generate(c.p)
		checkTold(t, c.gens, gens, nothingOfGens, err)
	}
	flat := api.Gens{Dim: 2, Points: []api.Point{point(most, 0, 1), point(most-1, 0, 1), point(1, 1, 0)}}
	for _, c := range []struct {
		g    api.Gens
		want string
	}{
		{flat, "{2 [{false [-1 -2147483647] -1} {false [1 0] 0} {false [1 2147483648] 1}]}"},
		{api.Gens{Dim: 2, Points: []api.Point{point(most, 1, 0), point(most-1, 0, 1)}}, "{2 [{true [2147483648 2147483647] 1} {false [0 -2147483647] -1} {false [0 1] 0}]}"},
		{api.Gens{Dim: 2, Points: []api.Point{point(most, 1, 0), point(1, most, most)}}, "{2 [{true [4611686018427387904 -4611686018427387903] 2147483648} {false [0 -1] -2147483648} {false [0 1] 0}]}"},
		{api.Gens{Dim: 2, Points: []api.Point{point(most, -1, 0), point(1, most, most)}}, "bound"},
	} {
		p, err := Constrain(c.g)
		checkTold(t, c.want, p, nothing, err)
	}
}

func checkTold(t *testing.T, want string, got any, zero string, err error) {
	t.Helper()
	var fault error
	if want == "bound" {
		want, fault = zero, api.ErrBound
	}
	if fmt.Sprint(got) != want || err != fault {
		t.Errorf("%v %v, want %v %v", got, err, want, fault)
	}
}

// polygon of n edges in the variables at and at + 1, around 0: rows that touch a parabola, and a lid.
func polygon(n, dim, at int) []api.Row {
	var l []api.Row
	for i := range n - 1 {
		x := 2*i - n + 2
		r := least(-x*x-1, make([]int, dim)...)
		r.A[at], r.A[at+1] = -2*x, 1
		l = append(l, r)
	}
	lid := least(-1000, make([]int, dim)...)
	lid.A[at+1] = -1
	return append(l, lid)
}

func product(x, y, dim int) []api.Row { return append(polygon(x, dim, 0), polygon(y, dim, 2)...) }

// P33: MaxMany of all kinds together are told, and no more; how many lie between does not count.
func TestManyGens(t *testing.T) {
	// Each row with its B as the number of a last variable: a cone over it, from 0 on.
	over := func(rows []api.Row) []api.Row {
		for i, r := range rows {
			rows[i] = least(0, append(r.A[:4:4], -r.B)...)
		}
		return rows
	}
	floor := least(0, 0, 0, 0, 0, 1)
	for _, c := range []struct {
		p                   api.Poly
		points, rays, lines int
		want                error
	}{
		{poly(4, product(6, 10, 4)...), 60, 0, 0, nil},
		{poly(5, product(3, 19, 5)...), 57, 0, 1, nil},
		{poly(5, product(6, 10, 5)...), 60, 0, 1, api.ErrBound},
		{poly(5, append(product(3, 19, 5), floor)...), 57, 1, 0, nil},
		{poly(5, append(product(6, 10, 5), floor)...), 60, 1, 0, api.ErrBound},
		{poly(5, over(product(3, 19, 5))...), 1, 57, 0, nil},
		{poly(5, over(product(6, 10, 5))...), 1, 60, 0, api.ErrBound},
		{poly(4, product(7, 9, 4)...), 63, 0, 0, api.ErrBound},
		{poly(4, product(12, 12, 4)...), 144, 0, 0, api.ErrBound},
	} {
		gens, err := Generate(c.p)
		if c.want != nil {
			c.points, c.rays, c.lines = 0, 0, 0
		}
		if len(gens.Points) != c.points || len(gens.Rays) != c.rays || len(gens.Lines) != c.lines || err != c.want {
			t.Error(c, len(gens.Points), len(gens.Rays), len(gens.Lines), err)
		}
		if form, err := Form(c.p); len(form.Rows) != len(c.p.Rows) || err != nil {
			t.Error(c.p, form, err)
		}
	}
}

// P33: as many rows as that.
func TestManyRows(t *testing.T) {
	// What a polygon's rows ask is turned into points around 0: each choice of two polygons' edges becomes a row.
	points := func(rows []api.Row) []api.Point {
		var l []api.Point
		for _, r := range rows {
			l = append(l, point(-r.B, r.A...))
		}
		return l
	}
	rays := func(l []api.Point) [][]int {
		var m [][]int
		for _, x := range l {
			m = append(m, append(x.X[:4:4], x.Den))
		}
		return m
	}
	top := many(1, point(1, 0, 0, 0, 0, 0))
	for _, c := range []struct {
		g          api.Gens
		even, rows int
		want       error
	}{
		{api.Gens{Dim: 4, Points: points(product(6, 10, 4))}, 0, 60, nil},
		{api.Gens{Dim: 5, Points: points(product(3, 19, 5))}, 1, 57, nil},
		{api.Gens{Dim: 5, Points: points(product(6, 10, 5))}, 1, 60, api.ErrBound},
		// That Den is from 0 on bounds the cone of the points, and is no row.
		{api.Gens{Dim: 5, Points: top, Rays: rays(points(product(6, 10, 5)))}, 0, 60, nil},
		{api.Gens{Dim: 5, Points: points(product(6, 10, 5)), Lines: [][]int{{0, 0, 0, 0, 1}}}, 0, 60, nil},
		{api.Gens{Dim: 5, Points: points(product(6, 10, 5)), Rays: [][]int{{0, 0, 0, 0, 1}}}, 0, 61, api.ErrBound},
		{api.Gens{Dim: 4, Points: points(product(7, 9, 4))}, 0, 63, api.ErrBound},
	} {
		p, err := Constrain(c.g)
		even := len(slices.DeleteFunc(slices.Clone(p.Rows), func(r api.Row) bool { return !r.Eq }))
		if c.want != nil {
			c.even, c.rows = 0, 0
		}
		if even != c.even || len(p.Rows) != c.even+c.rows || err != c.want {
			t.Error(c, even, len(p.Rows), err)
		}
	}
}

// P32.
func TestEmpty(t *testing.T) {
	for _, c := range []struct {
		dim  int
		rows string
		want bool
	}{
		{0, "", false},
		{0, "0 >= 0\n", false},
		{0, "0 >= 1\n", true},
		{0, "0 = 1\n", true},
		{0, "0 = -1\n", true},
		{5, "", false},
		{1, "x0 >= 1\n-x0 >= -1\n", false},
		{1, "x0 >= 1\n-x0 >= 0\n", true},
		{1, "2 x0 = 1\n", false},
		{1, "3 x0 >= 1\n-3 x0 >= -2\n", false},
		{1, "2147483648 x0 >= 1\n-2147483647 x0 >= -1\n", false},
		{1, "2147483647 x0 >= 1\n-2147483648 x0 >= -1\n", true},
		{2, "x0 - x1 >= 1\n-x0 + x1 >= -1\nx0 + x1 = 100\n", false},
		{2, "x0 - x1 >= 1\n-x0 + x1 >= 0\n", true},
		{3, "x0 - x1 >= 1\nx1 - x2 >= 1\n-x0 + x2 >= -1\n", true},
		{3, "x0 - x1 >= 1\nx1 - x2 >= 1\n-x0 + x2 >= -2\n", false},
	} {
		if got, err := Empty(readAs(t, c.dim, c.rows)); got != c.want || err != nil {
			t.Errorf("%q: %v %v", c.rows, got, err)
		}
	}
}

// P32.
func TestHas(t *testing.T) {
	half := poly(2, least(1, 2, 0), same(3, 1, 1))
	for _, c := range []struct {
		p    api.Poly
		x    api.Point
		want bool
		err  error
	}{
		{poly(0), point(1), true, nil},
		{poly(0), point(5), true, nil},
		{poly(0, least(1)), point(1), false, nil},
		{poly(0, same(-1)), point(1), false, nil},
		{poly(2), point(7, -5, 3), true, nil},
		{half, point(2, 1, 5), true, nil},
		{half, point(4, 2, 10), true, nil},
		{half, point(1, 1, 2), true, nil},
		{half, point(1, 0, 3), false, nil},
		{half, point(2, 1, 4), false, nil},
		{half, point(2, 1, 6), false, nil},
		{half, point(1, 1, 5), false, nil},
		// Sums of products that no int holds.
		{poly(4, least(most, most, most, most, most)), point(1, most, most, most, most), true, nil},
		{poly(4, least(-most, most, most, most, most)), point(1, -most, -most, -most, -most), false, nil},
		{poly(4, same(0, most, most, most, most)), point(1, most, most, most, most), false, nil},
		{poly(1, same(most, most)), point(most, most), true, nil},
		{poly(1, least(most, most)), point(most, most-1), false, nil},
		{half, point(1, 1), false, api.ErrShape},
		{half, point(1), false, api.ErrShape},
		{half, point(1, 1, 2, 3), false, api.ErrShape},
		{half, point(0, 1, 2), false, api.ErrShape},
		{half, point(-1, 1, 2), false, api.ErrShape},
		{half, api.Point{}, false, api.ErrShape},
		{poly(0), api.Point{}, false, api.ErrShape},
		{half, point(1, over, 2), false, api.ErrBound},
		{half, point(1, 1, -over), false, api.ErrBound},
		{half, point(over, 1, 2), false, api.ErrBound},
		{half, point(1, math.MinInt, 2), false, api.ErrBound},
		{half, point(math.MinInt, 1, 2), false, api.ErrShape},
		// The first error that is so is told.
		{half, point(0, over, 1), false, api.ErrShape},
		{half, point(over, 1), false, api.ErrShape},
		{poly(6), point(0), false, api.ErrBound},
		{poly(1, least(0)), point(over, 1), false, api.ErrShape},
	} {
		if got, err := Has(c.p, c.x); got != c.want || err != c.err {
			t.Error(c, got, err)
		}
	}
}

// P32.
func TestWithin(t *testing.T) {
	for _, c := range []struct {
		dim         int
		p, q        string
		there, back bool
	}{
		{0, "", "", true, true},
		{0, "0 >= 1\n", "", true, false},
		{0, "0 >= 1\n", "0 = 2\n", true, true},
		{1, "x0 >= 1\n", "x0 >= 0\n", true, false},
		{1, "x0 = 1\n", "x0 >= 1\n-2 x0 >= -2\n", true, true},
		{1, "2 x0 = 1\n", "x0 = 1\n", false, false},
		{1, "3 x0 = 1\n", "2 x0 >= 0\n-2 x0 >= -1\n", true, false},
		{1, "x0 >= 1\n-x0 >= 0\n", "x0 = 9\n", true, false},
		{2, "x0 >= 0\nx1 >= 0\n", "x0 + x1 >= 0\n", true, false},
		{2, "x0 >= 0\nx1 >= 0\n", "x0 - x1 >= -9\n", false, false},
		{2, "x0 = 0\n", "", true, false},
		{2, "x0 = 0\n", "x1 >= 0\n", false, false},
		{2, "x0 = 0\n", "x0 >= 0\n", true, false},
		{2, "x0 - x1 = 3\n", "x0 - x1 >= 3\n", true, false},
		{2, "x0 - x1 = 3\n", "x0 + x1 >= 3\n", false, false},
		{2, "x0 >= 0\nx1 >= 0\n-x0 - x1 >= -1\n", "-x0 >= -1\n-x1 >= -1\nx0 >= 0\nx1 >= 0\n", true, false},
		{2, "x0 >= 0\nx1 >= 0\n-x0 - x1 >= -1\n", "x1 >= 0\n-2 x0 - 2 x1 >= -2\n3 x0 >= 0\nx0 + x1 >= 0\n", true, true},
	} {
		p, q := readAs(t, c.dim, c.p), readAs(t, c.dim, c.q)
		there, err := Within(p, q)
		back, fault := Within(q, p)
		if there != c.there || back != c.back || err != nil || fault != nil {
			t.Error(c, there, back, err, fault)
		}
	}
	good, bad, worse := poly(1), poly(1, least(0)), poly(6)
	for _, c := range []struct {
		p, q api.Poly
		want error
	}{
		{good, poly(2), api.ErrShape},
		{poly(2, least(1, 0, 0)), good, api.ErrShape},
		{good, bad, api.ErrShape},
		{good, worse, api.ErrBound},
		{bad, worse, api.ErrShape},
		{worse, bad, api.ErrBound},
		{poly(2), poly(1, least(over, 1)), api.ErrBound},
	} {
		if got, err := Within(c.p, c.q); got || err != c.want {
			t.Error(c, got, err)
		}
	}
}

// P33: what was worked out by hand, there and back.
func TestGenerate(t *testing.T) {
	for _, c := range []struct {
		dim        int
		rows, want string
	}{
		{0, "", "{0 [{[] 1}] [] []}"},
		{0, "0 >= 1\n", "{0 [] [] []}"},
		{3, "0 >= 1\n", "{3 [] [] []}"},
		{1, "", "{1 [{[0] 1}] [] [[1]]}"},
		{2, "", "{2 [{[0 0] 1}] [] [[1 0] [0 1]]}"},
		{1, "2 x0 >= 3\n", "{1 [{[3] 2}] [[1]] []}"},
		{1, "-4 x0 >= 6\n", "{1 [{[-3] 2}] [[-1]] []}"},
		{1, "6 x0 = 4\n", "{1 [{[2] 3}] [] []}"},
		{2, "x0 >= 0\nx1 >= 0\n-2 x0 >= -1\n", "{2 [{[0 0] 1} {[1 0] 2}] [[0 1]] []}"},
		// Points and rays have 0 in the columns of the lines' pivots.
		{2, "x0 + x1 >= 1\n", "{2 [{[0 1] 1}] [[0 1]] [[1 -1]]}"},
		{2, "x0 + 2 x1 = 1\n", "{2 [{[0 1] 2}] [] [[2 -1]]}"},
		{3, "x0 + x1 + x2 >= 1\n-x0 - x1 - x2 >= -2\n", "{3 [{[0 0 1] 1} {[0 0 2] 1}] [] [[1 0 -1] [0 1 -1]]}"},
		// Points rise by X, as it stands, then by Den.
		{1, "3 x0 >= 1\n-2 x0 >= -1\n", "{1 [{[1] 2} {[1] 3}] [] []}"},
		{2, "x0 >= 0\n-x0 >= -1\n2 x1 >= 1\n-x1 >= -1\n", "{2 [{[0 1] 1} {[0 1] 2} {[1 1] 1} {[2 1] 2}] [] []}"},
		{2, "x0 - x1 >= 0\nx0 + x1 >= 0\n", "{2 [{[0 0] 1}] [[1 -1] [1 1]] []}"},
		{2, "x0 >= 0\nx1 >= 0\n-x0 - x1 >= -1\n", "{2 [{[0 0] 1} {[0 1] 1} {[1 0] 1}] [] []}"},
	} {
		p := readAs(t, c.dim, c.rows)
		gens, err := Generate(p)
		if got := fmt.Sprint(gens); got != c.want || err != nil {
			t.Errorf("%q: %v %v, want %v", c.rows, got, err, c.want)
		}
		form, _ := Form(p)
		back, err := Constrain(gens)
		if fmt.Sprint(back) != fmt.Sprint(form) || err != nil {
			t.Errorf("%q: %v %v, want %v", c.rows, back, err, form)
		}
	}
}

// P33: generators that are not in form.
func TestConstrain(t *testing.T) {
	for _, c := range []struct {
		g    api.Gens
		want string
	}{
		{api.Gens{}, "0 >= 1\n"},
		{api.Gens{Dim: 2, Rays: [][]int{{1, 0}}, Lines: [][]int{{0, 1}}}, "0 >= 1\n"},
		{api.Gens{Points: []api.Point{point(3), point(1)}, Lines: [][]int{nil}}, ""},
		{api.Gens{Dim: 1, Points: []api.Point{point(1, 0), point(1, 3)}}, "-x0 >= -3\nx0 >= 0\n"},
		{api.Gens{Dim: 1, Points: []api.Point{point(2, 1), point(1, 3), point(4, 2), point(1, 2)}}, "-x0 >= -3\n2 x0 >= 1\n"},
		{api.Gens{Dim: 1, Points: []api.Point{point(6, 4)}}, "3 x0 = 2\n"},
		{api.Gens{Dim: 1, Points: []api.Point{point(1, 5), point(1, 7)}, Rays: [][]int{{4}}}, "x0 >= 5\n"},
		{api.Gens{Dim: 1, Points: []api.Point{point(1, 5)}, Rays: [][]int{{0}}, Lines: [][]int{{0}}}, "x0 = 5\n"},
		{api.Gens{Dim: 1, Points: []api.Point{point(1, 5)}, Rays: [][]int{{1}, {-3}}}, ""},
		{api.Gens{Dim: 1, Points: []api.Point{point(1, 5)}, Lines: [][]int{{-3}}}, ""},
		{api.Gens{Dim: 2, Points: []api.Point{point(1, 1, 1)}, Lines: [][]int{{2, 4}}}, "2 x0 - x1 = 1\n"},
		{api.Gens{Dim: 2, Points: []api.Point{point(1, 1, 1)}, Lines: [][]int{{0, 4}}, Rays: [][]int{{-2, 7}}}, "-x0 >= -1\n"},
		{api.Gens{Dim: 2, Points: []api.Point{point(1, 0, 0), point(1, 2, 0), point(1, 0, 2), point(2, 1, 1)}}, "-x0 - x1 >= -2\nx1 >= 0\nx0 >= 0\n"},
		{api.Gens{Dim: 3, Points: []api.Point{point(1, 0, 0, 1), point(1, 1, 0, 0)}, Rays: [][]int{{0, 1, 0}}}, "x0 + x2 = 1\n-x2 >= -1\nx2 >= 0\nx1 >= 0\n"},
	} {
		p, err := Constrain(c.g)
		if err != nil || p.Dim != c.g.Dim || textOf(t, p) != c.want {
			t.Errorf("%v: %v %v, want %q", c.g, p, err, c.want)
		}
	}
}

// P4: what is handed over is only read, also behind a list's end; what is told is new, list by list.
func TestMemory(t *testing.T) {
	rows := make([]api.Row, 0, 8)
	for _, r := range []api.Row{least(1, 2, 4, 0), least(0, -3, 0, 1), same(5, 0, 5, 5), least(-7, -1, 0, 0)} {
		r.A = append(make([]int, 0, 9), r.A...)
		rows = append(rows, r)
	}
	g := api.Gens{Dim: 2, Points: append(make([]api.Point, 0, 8), point(2, 1, 4), point(1, 0, 0)), Rays: append(make([][]int, 0, 8), []int{2, 2}), Lines: make([][]int, 0, 8)}
	p, x := api.Poly{Dim: 3, Rows: rows}, point(2, 3, 1, 1)
	given := func() string {
		return fmt.Sprint(rows, rows[:8], rows[0].A[:9], g, g.Points[:8], g.Rays[:8], g.Lines[:8], x)
	}
	told := func() (api.Poly, api.Gens, api.Poly, api.Poly) {
		form, _ := Form(p)
		gens, _ := Generate(p)
		hull, _ := Constrain(g)
		none, _ := Form(poly(3, least(1, 0, 0, 0)))
		return form, gens, hull, none
	}
	before := given()
	form, gens, hull, none := told()
	want := fmt.Sprint(form, gens, hull, none)
	Has(p, x)
	Empty(p)
	Within(p, p)
	Text(p)
	if after := given(); after != before {
		t.Error(before, after)
	}
	var lists [][]int
	for _, r := range slices.Concat(form.Rows, hull.Rows, none.Rows) {
		lists = append(lists, r.A)
	}
	for _, x := range gens.Points {
		lists = append(lists, x.X)
	}
	checkApart(t, slices.Concat(lists, gens.Rays, gens.Lines))
	if form, gens, hull, none := told(); fmt.Sprint(form, gens, hull, none) != want {
		t.Error(form, gens, hull, none, want)
	}
}

// checkApart writes into each list, and behind it, and looks whether another one changes.
func checkApart(t *testing.T, lists [][]int) {
	t.Helper()
	for i, l := range lists {
		others := slices.Delete(slices.Clone(lists), i, i+1)
		was := fmt.Sprint(others)
		for j := range l {
			l[j] = 99
		}
		_ = append(l, 99)
		if is := fmt.Sprint(others); is != was {
			t.Error("lists share memory:", was, is)
		}
	}
}

// P2: answers do not hang on who else asks.
func TestSideBySide(t *testing.T) {
	p := poly(4, product(5, 6, 4)...)
	ask := func() string {
		form, err := Form(p)
		gens, fault := Generate(p)
		return fmt.Sprint(form, err, gens, fault)
	}
	want := ask()
	got := make([]string, 8)
	var all sync.WaitGroup
	for i := range got {
		all.Go(func() { got[i] = ask() })
	}
	all.Wait()
	for _, g := range got {
		if g != want {
			t.Error(g, want)
		}
	}
}

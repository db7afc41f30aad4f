package cone

import (
	"fmt"
	"math"
	"slices"
	"sync"
	"testing"

	"raycone/api"
)

func many(n int, r ...int) [][]int {
	m := make([][]int, n)
	for i := range m {
		m[i] = slices.Clone(r)
	}
	return m
}

// P20: both kinds of cones have the same bounds.
func TestValid(t *testing.T) {
	const most, over = api.MaxEntry, api.MaxEntry + 1
	for _, c := range []struct {
		dim       int
		one, both [][]int
		want      error
	}{
		{0, nil, nil, nil},
		{0, [][]int{nil, {}}, [][]int{{}}, nil},
		{6, nil, nil, nil},
		{2, [][]int{{1, 2}}, [][]int{{0, 0}, {most, -most}}, nil},
		{1, many(24, 1), nil, nil},
		{1, nil, many(24, 1), nil},
		{1, many(12, 1), many(12, 1), nil},
		{-1, nil, nil, api.ErrBound},
		{7, nil, nil, api.ErrBound},
		{math.MinInt, nil, nil, api.ErrBound},
		{math.MaxInt, nil, nil, api.ErrBound},
		{1, many(25, 1), nil, api.ErrBound},
		{1, nil, many(25, 1), api.ErrBound},
		{1, many(12, 1), many(13, 1), api.ErrBound},
		{1, [][]int{{}}, nil, api.ErrShape},
		{1, [][]int{nil}, nil, api.ErrShape},
		{1, nil, [][]int{{1, 2}}, api.ErrShape},
		{2, [][]int{{1, 2}}, [][]int{{1, 2}, {1}}, api.ErrShape},
		{0, [][]int{{1}}, nil, api.ErrShape},
		{2, [][]int{{1, over}}, nil, api.ErrBound},
		{2, nil, [][]int{{-over, 1}}, api.ErrBound},
		{1, [][]int{{math.MinInt}}, nil, api.ErrBound},
		{1, [][]int{{math.MaxInt}}, nil, api.ErrBound},
		// The first error that is so is told.
		{7, [][]int{{1}}, nil, api.ErrBound},
		{1, many(25), nil, api.ErrBound},
		{1, [][]int{{over}}, [][]int{{}}, api.ErrShape},
		{1, [][]int{{over}, {1, over}}, nil, api.ErrShape},
	} {
		one, other := Cone{c.dim, c.one, c.both}, Rays{c.dim, c.one, c.both}
		if got := ValidCone(one); got != c.want {
			t.Error("cone", c, got)
		}
		if got := ValidRays(other); got != c.want {
			t.Error("rays", c, got)
		}
		rays, err := Generate(one)
		if err != c.want || err != nil && fmt.Sprint(rays) != "{0 [] []}" {
			t.Error("generate", c, rays, err)
		}
		rows, err := Constrain(other)
		if err != c.want || err != nil && fmt.Sprint(rows) != "{0 [] []}" {
			t.Error("constrain", c, rows, err)
		}
		has, err := Has(one, make([]int, min(max(c.dim, 0), 9)))
		if err != c.want || has != (err == nil) {
			t.Error("has", c, has, err)
		}
	}
}

// P21, P22: what was worked out by hand.
func TestTurned(t *testing.T) {
	for _, c := range []struct {
		dim       int
		one, both [][]int
		want      string
	}{
		{0, nil, nil, "[] []"},
		{0, many(3), many(2), "[] []"},
		{1, nil, nil, "[] [[1]]"},
		{1, [][]int{{0}}, [][]int{{0}}, "[] [[1]]"},
		{1, [][]int{{7}}, nil, "[[1]] []"},
		{1, [][]int{{-7}}, nil, "[[-1]] []"},
		{1, [][]int{{7}, {-1}}, nil, "[] []"},
		{1, nil, [][]int{{7}}, "[] []"},
		{2, [][]int{{1, 0}, {0, 1}}, nil, "[[0 1] [1 0]] []"},
		// Lines are reduced, and rays have 0 in the columns of their pivots.
		{2, [][]int{{0, 2}}, nil, "[[0 1]] [[1 0]]"},
		{2, [][]int{{1, 1}}, nil, "[[0 1]] [[1 -1]]"},
		{2, [][]int{{-1, 1}}, nil, "[[0 1]] [[1 1]]"},
		{2, [][]int{{1, -1}}, nil, "[[0 -1]] [[1 1]]"},
		{3, [][]int{{2, 4, 6}}, nil, "[[0 0 1]] [[3 0 -1] [0 3 -2]]"},
		{3, nil, [][]int{{2, 4, 6}}, "[] [[3 0 -1] [0 3 -2]]"},
		{3, nil, [][]int{{1, 2, 3}, {2, 4, 6}, {0, 1, -1}}, "[] [[5 -1 -1]]"},
		// Rows that follow from others, rows twice, rows of nothing but 0.
		{2, [][]int{{1, 0}, {3, 0}, {0, 1}, {0, 0}, {5, 7}}, nil, "[[0 1] [1 0]] []"},
		// Rows that hold one way, and together both ways.
		{2, [][]int{{1, 2}, {-2, -4}}, nil, "[] [[2 -1]]"},
		{3, [][]int{{1, 1, 1}, {-1, 0, -1}, {0, -1, 0}, {0, 0, 1}}, nil, "[[-1 0 1]] []"},
		{3, [][]int{{1, 1, 1}, {-1, -1, -1}, {1, 0, 0}, {0, 1, 0}}, nil, "[[0 1 -1] [1 0 -1]] []"},
		{3, [][]int{{1, 0, 0}, {0, 1, 0}}, [][]int{{0, 0, 1}}, "[[0 1 0] [1 0 0]] []"},
		{3, [][]int{{1, 0, 0}, {0, 1, 0}}, [][]int{{1, -1, 0}}, "[[1 1 0]] [[0 0 1]]"},
		// Numbers that are Normal, in rays that rise.
		{2, [][]int{{2, -3}, {-1, 4}}, nil, "[[3 2] [4 1]] []"},
		{2, [][]int{{-2, 3}, {1, 4}}, nil, "[[-4 1] [3 2]] []"},
		{3, [][]int{{1, 0, 1}, {-1, 0, 1}, {0, 1, 1}, {0, -1, 1}}, nil, "[[-1 -1 1] [-1 1 1] [1 -1 1] [1 1 1]] []"},
		{3, [][]int{{-1, -1, 1}, {-1, 1, 1}, {1, -1, 1}, {1, 1, 1}}, nil, "[[-1 0 1] [0 -1 1] [0 1 1] [1 0 1]] []"},
	} {
		rays, err := Generate(Cone{c.dim, c.one, c.both})
		if got := fmt.Sprint(rays.Rays, rays.Lines); got != c.want || rays.Dim != c.dim || err != nil {
			t.Error("generate", c, rays, err)
		}
		rows, err := Constrain(Rays{c.dim, c.one, c.both})
		if got := fmt.Sprint(rows.Up, rows.Even); got != c.want || rows.Dim != c.dim || err != nil {
			t.Error("constrain", c, rows, err)
		}
	}
}

// polygon of n edges in the columns at and at + 1, with the last column for 1: lines that touch a parabola, and a lid.
func polygon(n, dim, at int) [][]int {
	var m [][]int
	for i := range n - 1 {
		x := 2*i - n + 2
		m = append(m, make([]int, dim))
		m[i][at], m[i][at+1], m[i][dim-1] = -2*x, 1, x*x
	}
	lid := make([]int, dim)
	lid[at+1], lid[dim-1] = -1, 1000
	return append(m, lid)
}

// P22: MaxMany of both kinds together are told, and no more.
func TestTurnedMany(t *testing.T) {
	wider := func(m [][]int) [][]int {
		for i, r := range m {
			m[i] = append(r, 0)
		}
		return m
	}
	product := func(x, y int) [][]int { return append(polygon(x, 5, 0), polygon(y, 5, 2)...) }
	// A top over all of the floor: each row of the floor leans to it.
	pyramid := func(m [][]int) [][]int {
		for i, r := range m {
			m[i] = append(r[:4:4], -r[4], r[4])
		}
		return append(m, []int{0, 0, 0, 0, 1, 0})
	}
	for _, c := range []struct {
		dim         int
		one         [][]int
		rays, lines int
		want        error
	}{
		{5, product(6, 10), 60, 0, nil},
		{6, wider(product(6, 10)), 60, 1, api.ErrBound},
		{6, wider(product(3, 19)), 57, 1, nil},
		{6, pyramid(product(3, 19)), 58, 0, nil},
		{6, pyramid(product(6, 10)), 61, 0, api.ErrBound},
		{5, product(7, 9), 63, 0, api.ErrBound},
		{5, product(12, 12), 144, 0, api.ErrBound},
	} {
		rays, err := Generate(Cone{Dim: c.dim, Up: c.one})
		checkMany(t, len(rays.Rays), len(rays.Lines), c.rays, c.lines, err, c.want)
		rows, err := Constrain(Rays{Dim: c.dim, Rays: c.one})
		checkMany(t, len(rows.Up), len(rows.Even), c.rays, c.lines, err, c.want)
	}
}

func checkMany(t *testing.T, one, both, wantOne, wantBoth int, err, want error) {
	t.Helper()
	if want != nil {
		wantOne, wantBoth = 0, 0
	}
	if one != wantOne || both != wantBoth || err != want {
		t.Error(one, both, err, wantOne, wantBoth, want)
	}
}

// P22: numbers up to MaxTold in size are told, and none above it.
func TestTurnedGreat(t *testing.T) {
	const most = api.MaxEntry
	for _, c := range []struct {
		dim       int
		one, both [][]int
		want      string
	}{
		{3, nil, [][]int{{1, most, 0}, {0, 1, most}}, "[] [[4611686018427387904 -2147483648 1]]"},
		{3, nil, [][]int{{1, most, 1}, {0, 1, most}}, "[] [[4611686018427387903 -2147483648 1]]"},
		{3, nil, [][]int{{1, most, -1}, {0, 1, most}}, "bound"},
		{3, [][]int{{0, 0, 1}}, [][]int{{1, most, 0}, {0, 1, most}}, "[[4611686018427387904 -2147483648 1]] []"},
		{3, [][]int{{0, 0, -1}}, [][]int{{1, most, 0}, {0, 1, most}}, "[[-4611686018427387904 2147483648 -1]] []"},
		{3, [][]int{{0, 0, 1}}, [][]int{{1, most, -1}, {0, 1, most}}, "bound"},
		{3, [][]int{{0, 0, -1}}, [][]int{{1, most, -1}, {0, 1, most}}, "bound"},
		{3, [][]int{{1, -most, 0}, {0, 1, -most}, {0, 0, 1}}, nil, "[[1 0 0] [2147483648 1 0] [4611686018427387904 2147483648 1]] []"},
		{3, [][]int{{1, -most, -1}, {0, 1, -most}, {0, 0, 1}}, nil, "bound"},
		// What lies between may be greater than what is told: here the last row cuts off the greatest ray.
		{4, [][]int{{1, -most, 0, 0}, {0, 1, -most, 0}, {0, 0, 1, -most}, {0, 0, 0, 1}, {0, 0, 0, -1}}, nil, "[[1 0 0 0] [2147483648 1 0 0] [4611686018427387904 2147483648 1 0]] []"},
		{4, [][]int{{1, -most, 0, 0}, {0, 1, -most, 0}, {0, 0, 1, -most}, {0, 0, 0, 1}}, nil, "bound"},
	} {
		rays, err := Generate(Cone{c.dim, c.one, c.both})
		checkTold(t, c.want, fmt.Sprint(rays.Rays, rays.Lines), err)
		rows, err := Constrain(Rays{c.dim, c.one, c.both})
		checkTold(t, c.want, fmt.Sprint(rows.Up, rows.Even), err)
	}
}

func checkTold(t *testing.T, want, got string, err error) {
	t.Helper()
	if want == "bound" {
		if got != "[] []" || err != api.ErrBound {
			t.Error(got, err)
		}
		return
	}
	if got != want || err != nil {
		t.Error(got, err, want)
	}
}

// P23.
func TestHas(t *testing.T) {
	const most, over = api.MaxEntry, api.MaxEntry + 1
	great := []int{most, most, most, most, most, most}
	less := []int{-most, -most, -most, -most, -most, -most}
	bent := Cone{2, [][]int{{1, -1}}, [][]int{{2, -3}}}
	for _, c := range []struct {
		c    Cone
		x    []int
		want bool
		err  error
	}{
		{Cone{}, nil, true, nil},
		{Cone{Dim: 2}, []int{-5, 7}, true, nil},
		{bent, []int{3, 2}, true, nil},
		{bent, []int{0, 0}, true, nil},
		{bent, []int{-3, -2}, false, nil},
		{bent, []int{4, 2}, false, nil},
		{bent, []int{2, 2}, false, nil},
		{Cone{Dim: 2, Up: [][]int{{1, -1}}}, []int{2, 2}, true, nil},
		{Cone{Dim: 2, Up: [][]int{{1, -1}, {0, 1}}}, []int{2, -1}, false, nil},
		{Cone{Dim: 2, Even: [][]int{{1, -1}}}, []int{2, 1}, false, nil},
		{Cone{Dim: 2, Even: [][]int{{1, -1}}}, []int{1, 2}, false, nil},
		// Sums of products that no int holds.
		{Cone{Dim: 6, Up: [][]int{great}}, great, true, nil},
		{Cone{Dim: 6, Up: [][]int{great}}, less, false, nil},
		{Cone{Dim: 4, Even: [][]int{great[:4]}}, great[:4], false, nil},
		{bent, []int{3}, false, api.ErrShape},
		{bent, nil, false, api.ErrShape},
		{bent, []int{3, 2, 0}, false, api.ErrShape},
		{bent, []int{over, 0}, false, api.ErrBound},
		{bent, []int{0, -over}, false, api.ErrBound},
		{bent, []int{math.MinInt, 0}, false, api.ErrBound},
		{bent, []int{over}, false, api.ErrShape},
		{Cone{Dim: 7}, []int{over}, false, api.ErrBound},
		{Cone{Dim: 1, Up: [][]int{{over}}}, nil, false, api.ErrBound},
		{Cone{Dim: 1, Up: [][]int{{}}}, []int{over}, false, api.ErrShape},
	} {
		if got, err := Has(c.c, c.x); got != c.want || err != c.err {
			t.Error(c, got, err)
		}
	}
}

// P4: what is handed over is only read, also behind a list's end; what is told is new, list by list.
func TestMemory(t *testing.T) {
	up := make([][]int, 0, 8)
	for _, r := range [][]int{{2, 4, 0}, {-3, 0, 1}, {0, 5, 5}, {0, 0, 2}} {
		up = append(up, append(make([]int, 0, 9), r...))
	}
	even := make([][]int, 0, 8)
	before := fmt.Sprint(up, up[:8], up[0][:9], even[:8])
	c := Cone{3, up, even}
	rays, _ := Generate(c)
	rows, _ := Constrain(Rays{3, up, even})
	Has(c, []int{1, 2, 3})
	if after := fmt.Sprint(up, up[:8], up[0][:9], even[:8]); after != before {
		t.Error(before, after)
	}
	again, same := fmt.Sprint(rays), fmt.Sprint(rows)
	for _, m := range [][][]int{rays.Rays, rays.Lines, rows.Up, rows.Even} {
		for i, r := range m {
			was := fmt.Sprint(slices.Delete(slices.Clone(m), i, i+1))
			r = append(r, 99)
			for j := range r {
				r[j] = 99
			}
			for j := range m[i] {
				m[i][j] = 99
			}
			if is := fmt.Sprint(slices.Delete(slices.Clone(m), i, i+1)); is != was {
				t.Error("lists share memory:", was, is)
			}
		}
	}
	rays, _ = Generate(c)
	rows, _ = Constrain(Rays{3, up, even})
	if fmt.Sprint(rays) != again || fmt.Sprint(rows) != same {
		t.Error(rays, rows)
	}
}

// P2: answers do not hang on who else asks.
func TestSideBySide(t *testing.T) {
	c := Cone{Dim: 5, Up: append(polygon(5, 5, 0), polygon(5, 5, 2)...)}
	rays, err := Generate(c)
	want := fmt.Sprint(rays, err)
	got := make([]string, 8)
	var all sync.WaitGroup
	for i := range got {
		all.Go(func() {
			rays, err := Generate(c)
			got[i] = fmt.Sprint(rays, err)
		})
	}
	all.Wait()
	for _, g := range got {
		if g != want {
			t.Error(g, want)
		}
	}
}

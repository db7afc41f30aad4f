package whole

import (
	"math/rand"
	"testing"

	"raycone/api"
	"raycone/exact"
	"raycone/poly"
	"raycone/wide"
)

// of rows in text.
func of(t *testing.T, s string) exact.Poly {
	t.Helper()
	p, err := poly.Read(2, s)
	if err != nil {
		t.Fatal(s, err)
	}
	return exact.Of(p)
}

// told: the point, as ints.
func told(t *testing.T, p exact.Poly) (x, y int, ok bool) {
	t.Helper()
	r, ok := Point(p)
	if !ok {
		if len(r) > 0 {
			t.Fatal(r)
		}
		return 0, 0, false
	}
	l, isInt := r.Ints()
	if len(l) != 2 || !isInt {
		t.Fatal(r)
	}
	at := wide.RowOf([]int{l[0], l[1], 1})
	for _, way := range p.Ways() {
		if way.Dot(at).Sign() < 0 {
			t.Fatal(p, l)
		}
	}
	return l[0], l[1], true
}

func TestPoint(t *testing.T) {
	for _, c := range []struct {
		rows string
		want bool
	}{
		{"x0 = 2\nx1 = -3\n", true},
		{"2 x0 = 1\nx1 = 0\n", false},
		{"0 >= 1\n", false},
		{"2 x0 = 1\nx1 >= -100\n-x1 >= -100\n", false},
		{"2 x0 + 4 x1 = 1\nx1 >= -100\n-x1 >= -100\n", false},
		{"2 x0 + 3 x1 = 1\nx1 >= -1\n-x1 >= -1\n", true},
		{"2 x0 + 3 x1 = 1\nx1 >= 0\n-x1 >= 0\n", false},
		{"2 x0 >= 1\n-2 x0 >= -1\n2 x1 >= 1\n-2 x1 >= -3\n", false},
		{"3 x0 >= 1\n-3 x0 >= -2\nx1 >= -1000000\n-x1 >= -1000000\n", false},
		{"3 x0 + 3 x1 >= 1\n-3 x0 >= -4\n-3 x1 >= -4\n", true},
		{"x0 >= -2147483648\n-x0 >= 2147483647\nx1 >= 2147483647\n-x1 >= -2147483648\n", true},
		{"1000003 x0 - 999983 x1 = 1\nx0 >= 0\n-x0 >= -999983\n", true},
		{"1000003 x0 - 999983 x1 = 1\nx0 >= 0\n-x0 >= -10000\n", false},
	} {
		if _, _, got := told(t, of(t, c.rows)); got != c.want {
			t.Error(c.rows, got)
		}
	}
}

// some whole point of a small polygon, by looking at all of them.
func some(p exact.Poly, far int) bool {
	for x := -far; x <= far; x++ {
		for y := -far; y <= far; y++ {
			at, in := wide.RowOf([]int{x, y, 1}), true
			for _, way := range p.Ways() {
				in = in && way.Dot(at).Sign() >= 0
			}
			if in {
				return true
			}
		}
	}
	return false
}

// small polygon at random, of which all points are at most far in size.
func small(r *rand.Rand, far int) api.Poly {
	p := api.Poly{Dim: 2, Rows: []api.Row{{A: []int{1, 0}, B: -far}, {A: []int{-1, 0}, B: -far}, {A: []int{0, 1}, B: -far}, {A: []int{0, -1}, B: -far}}}
	size := 1 + r.Intn(12)
	for range 1 + r.Intn(5) {
		row := api.Row{Eq: r.Intn(8) == 0, A: []int{r.Intn(2*size+1) - size, r.Intn(2*size+1) - size}, B: r.Intn(2*size+1) - size}
		p.Rows = append(p.Rows, row)
		if r.Intn(2) == 0 {
			p.Rows = append(p.Rows, api.Row{A: []int{-row.A[0], -row.A[1]}, B: -row.B - r.Intn(3*size)})
		}
	}
	return p
}

func TestAlwaysSmall(t *testing.T) {
	r, seen := rand.New(rand.NewSource(1)), map[bool]int{}
	for range 4000 {
		p := exact.Of(small(r, 7))
		_, _, got := told(t, p)
		if want := some(p, 7); got != want {
			t.Fatal(p, got, want)
		}
		if !p.Empty() {
			seen[got]++
		}
	}
	if seen[true] < 300 || seen[false] < 300 {
		t.Error(seen)
	}
}

// Thin and far ones: small ones, seen through a change of base that keeps whole points whole.
func TestAlwaysThin(t *testing.T) {
	r, seen := rand.New(rand.NewSource(2)), map[bool]int{}
	for range 2000 {
		p := small(r, 7)
		want := some(exact.Of(p), 7)
		a, b, c, d := 1, 0, 0, 1
		for range r.Intn(9) {
			n := r.Intn(9) - 4
			a, b, c, d = b, a+n*b, d, c+n*d
		}
		for i, row := range p.Rows {
			x, y := row.A[0], row.A[1]
			p.Rows[i].A = []int{a*x + b*y, c*x + d*y}
			// The point 1000 -1000 becomes the middle.
			p.Rows[i].B += 1000*p.Rows[i].A[0] - 1000*p.Rows[i].A[1]
		}
		q := exact.Of(p)
		_, _, got := told(t, q)
		if got != want {
			t.Fatal(p, got, want)
		}
		if !q.Empty() {
			seen[got]++
		}
	}
	if seen[true] < 150 || seen[false] < 150 {
		t.Error(seen)
	}
}

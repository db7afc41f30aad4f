package dual

import (
	"math/rand"
	"slices"
	"testing"

	"raycone/wide"
)

func TestForm(t *testing.T) {
	for _, c := range []struct {
		dim      int
		up, even [][]int
		want     string
	}{
		{0, nil, nil, "[] []"},
		{0, [][]int{{}}, [][]int{{}}, "[] []"},
		{2, nil, nil, "[] []"},
		{2, [][]int{{0, 0}}, [][]int{{0, 0}}, "[] []"},
		{2, [][]int{{0, 3}, {2, 0}, {1, 1}, {0, 1}}, nil, "[[0 1] [1 0]] []"},
		{2, [][]int{{1, 2}, {-2, -4}}, nil, "[] [[1 2]]"},
		{2, [][]int{{1, 0}}, [][]int{{2, -4}}, "[[0 1]] [[1 -2]]"},
		{3, [][]int{{1, 0, 0}, {0, 1, 0}, {-1, -1, 0}, {0, 0, 5}}, nil, "[[0 0 1]] [[1 0 0] [0 1 0]]"},
		{3, [][]int{{1, 0, 0}, {0, 1, 0}, {0, 0, 1}, {1, 1, -1}, {2, 1, 0}}, nil, "[[0 0 1] [0 1 0] [1 0 0] [1 1 -1]] []"},
	} {
		up, even := wide.RowsOf(c.up), wide.RowsOf(c.even)
		rays, _ := Generators(c.dim, up, even)
		formUp, formEven := Form(up, even, rays)
		if got := texts(formUp) + " " + texts(formEven); got != c.want {
			t.Error(c, got)
		}
	}
}

// The form by faces is the one that comes of rays of rays.
func TestFormAtRandom(t *testing.T) {
	r := rand.New(rand.NewSource(1))
	some := func(n, dim, size int) []wide.Row {
		l := make([][]int, n)
		for i := range l {
			l[i] = make([]int, dim)
			for j := range l[i] {
				l[i][j] = r.Intn(2*size+1) - size
			}
		}
		return wide.RowsOf(l)
	}
	for range 3000 {
		dim, size := r.Intn(7), 1+r.Intn(4)
		up, even := some(r.Intn(9), dim, size), some(r.Intn(dim+2)/2, dim, size)
		if r.Intn(3) > 0 {
			// Above 0 where all numbers are 1: so that few cones are 0 alone.
			for i, row := range up {
				if row.Dot(wide.Row(slices.Repeat([]wide.Num{wide.From(1)}, dim))).Sign() < 0 {
					up[i] = row.Each(wide.Num.Negated)
				}
			}
		}
		given := texts(up) + texts(even)
		rays, lines := Generators(dim, up, even)
		wantUp, wantEven := Generators(dim, rays, lines)
		gotUp, gotEven := Form(up, even, rays)
		if texts(gotUp) != texts(wantUp) || texts(gotEven) != texts(wantEven) {
			t.Fatal(given, texts(gotUp), texts(gotEven), texts(wantUp), texts(wantEven))
		}
		if now := texts(up) + texts(even); now != given {
			t.Fatal("changed:", given, now)
		}
	}
}

// What lies behind a list's end is not written.
func TestFormBehind(t *testing.T) {
	rows := wide.RowsOf([][]int{{1, 0}, {7, 7}})
	if up, even := Form(wide.RowsOf([][]int{{0, 2}, {0, -2}}), rows[:1], nil); texts(up) != "[]" || texts(even) != "[[1 0] [0 1]]" {
		t.Error(texts(up), texts(even))
	}
	if texts(rows) != "[[1 0] [7 7]]" {
		t.Error(texts(rows))
	}
}

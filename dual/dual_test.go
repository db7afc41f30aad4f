package dual

import (
	"fmt"
	"testing"

	"raycone/wide"
)

func texts(l []wide.Row) string {
	m := make([][]int, len(l))
	for i, r := range l {
		m[i], _ = r.Ints()
	}
	return fmt.Sprint(m)
}

func TestGenerators(t *testing.T) {
	for _, c := range []struct {
		dim         int
		up, even    [][]int
		rays, lines string
	}{
		{0, nil, nil, "[]", "[]"},
		{2, nil, nil, "[]", "[[1 0] [0 1]]"},
		{2, nil, [][]int{{2, -4}}, "[]", "[[2 1]]"},
		{2, [][]int{{-3, 0}}, nil, "[[-1 0]]", "[[0 1]]"},
		{2, [][]int{{1, 1}}, [][]int{{1, -1}, {2, -2}}, "[[1 1]]", "[]"},
		{2, [][]int{{1, 1}, {-1, -1}}, [][]int{{1, -1}}, "[]", "[]"},
		{3, [][]int{{1, 0, 0}, {0, 1, 0}, {0, 0, 1}, {1, 1, -1}}, nil, "[[0 1 0] [0 1 1] [1 0 0] [1 0 1]]", "[]"},
		{3, [][]int{{1, 1, 0}}, nil, "[[0 1 0]]", "[[1 -1 0] [0 0 1]]"},
	} {
		rays, lines := Generators(c.dim, wide.RowsOf(c.up), wide.RowsOf(c.even))
		if texts(rays) != c.rays || texts(lines) != c.lines {
			t.Error(c, texts(rays), texts(lines))
		}
	}
}

// Rows on the moment curve have as many rays as any so many rows can have: those of the cyclic polytope.
func TestGeneratorsMost(t *testing.T) {
	for _, c := range []struct{ rows, want int }{{6, 6}, {7, 12}, {11, 56}, {24, 420}, {66, 63 * 62}} {
		var up []wide.Row
		for x := range c.rows {
			r := wide.Row{wide.From(1)}
			for i := range 5 {
				r = append(r, r[i].Times(wide.From(x-c.rows/2)))
			}
			up = append(up, r)
		}
		rays, lines := Generators(6, up, nil)
		if len(rays) != c.want || len(lines) != 0 {
			t.Error(c, len(rays), len(lines))
		}
	}
}

// What is handed over is only read.
func TestGeneratorsRead(t *testing.T) {
	up, even := wide.RowsOf([][]int{{2, 0, 0}, {0, -3, 0}, {1, 1, 1}, {-1, 2, 4}}), wide.RowsOf([][]int{{2, 2, -2}})
	want := texts(up) + texts(even)
	Generators(3, up, even)
	if got := texts(up) + texts(even); got != want {
		t.Error(got, want)
	}
}

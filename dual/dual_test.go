package dual

import (
	"fmt"
	"slices"
	"testing"

	"raycone/wide"
)

func texts(l []wide.Row) string {
	m := make([][]int, len(l))
	for i, r := range l {
		m[i], _ = r.Ints()
	}
	return fmt.Sprint(m)
}

func TestGenerators(t *testing.T) {
	for _, c := range []struct {
		dim         int
		up, even    [][]int
		rays, lines string
	}{
		{0, nil, nil, "[]", "[]"},
		{2, nil, nil, "[]", "[[1 0] [0 1]]"},
		{2, nil, [][]int{{2, -4}}, "[]", "[[2 1]]"},
		{2, [][]int{{-3, 0}}, nil, "[[-1 0]]", "[[0 1]]"},
		{2, [][]int{{1, 1}}, [][]int{{1, -1}, {2, -2}}, "[[1 1]]", "[]"},
		{2, [][]int{{1, 1}, {-1, -1}}, [][]int{{1, -1}}, "[]", "[]"},
		{3, [][]int{{1, 0, 0}, {0, 1, 0}, {0, 0, 1}, {1, 1, -1}}, nil, "[[0 1 0] [0 1 1] [1 0 0] [1 0 1]]", "[]"},
		{3, [][]int{{1, 1, 0}}, nil, "[[0 1 0]]", "[[1 -1 0] [0 0 1]]"},
	} {
		rays, lines := Generators(c.dim, wide.RowsOf(c.up), wide.RowsOf(c.even))
		if texts(rays) != c.rays || texts(lines) != c.lines {
			t.Error(c, texts(rays), texts(lines))
		}
	}
}

// Rows on the moment curve have as many rays as any so many rows can have: those of the cyclic polytope.
func TestGeneratorsMost(t *testing.T) {
	for _, c := range []struct{ rows, want int }{{6, 6}, {7, 12}, {11, 56}, {24, 420}, {66, 63 * 62}} {
		var up []wide.Row
		for x := range c.rows {
			r := wide.Row{wide.From(1)}
			for i := range 5 {
				r = append(r, r[i].Times(wide.From(x-c.rows/2)))
			}
			up = append(up, r)
		}
		rays, lines := Generators(6, up, nil)
		if len(rays) != c.want || len(lines) != 0 {
			t.Error(c, len(rays), len(lines))
		}
	}
}

// Some of many rays are told as soon as it is sure that there are more.
func TestFewGenerators(t *testing.T) {
	var up []wide.Row
	for x := range 40 {
		up = append(up, wide.RowOf([]int{1, x, x * x, x * x * x}))
	}
	all, _ := Generators(4, up, nil)
	if len(all) != 2*40-4 {
		t.Fatal(len(all))
	}
	for most := range 80 {
		few, lines := FewGenerators(4, up, nil, most)
		if len(few) != min(most+1, len(all)) || len(lines) != 0 {
			t.Error(most, len(few), len(lines))
		}
		for _, r := range few {
			if !slices.ContainsFunc(all, func(one wide.Row) bool { return one.Compare(r) == 0 }) {
				t.Error(most, r)
			}
		}
	}
	// Each ray is counted once, also one on which many rows are 0.
	for dim := 2; dim <= 6; dim++ {
		for most := range 2 * dim {
			few, _ := FewGenerators(dim, corners(dim), nil, most)
			if len(few) != min(most+1, 2*dim-2) {
				t.Error(dim, most, texts(few))
			}
		}
	}
	// Lines are told whole, whatever rays there are.
	few, lines := FewGenerators(4, wide.RowsOf([][]int{{1, 0, 0, 0}, {0, 1, 0, 0}}), wide.RowsOf([][]int{{0, 0, 1, 1}}), 0)
	if len(few) != 1 || texts(lines) != "[[0 0 1 -1]]" {
		t.Error(texts(few), texts(lines))
	}
}

// corners of a cube, with 1 behind them.
func corners(dim int) []wide.Row {
	l := [][]int{{1}}
	for range dim - 1 {
		var m [][]int
		for _, r := range l {
			m = append(m, append([]int{-1}, r...), append([]int{1}, r...))
		}
		l = m
	}
	return wide.RowsOf(l)
}

// What is handed over is only read.
func TestGeneratorsRead(t *testing.T) {
	up, even := wide.RowsOf([][]int{{2, 0, 0}, {0, -3, 0}, {1, 1, 1}, {-1, 2, 4}}), wide.RowsOf([][]int{{2, 2, -2}})
	want := texts(up) + texts(even)
	Generators(3, up, even)
	if got := texts(up) + texts(even); got != want {
		t.Error(got, want)
	}
}

package rows

import (
	"errors"
	"fmt"
	"math"
	"testing"

	"raycone/api"
)

const (
	most = api.MaxEntry
	told = api.MaxTold
)

// wanted tells whether the error is bare, the one that is wanted.
func wanted(t *testing.T, what any, err, want error) bool {
	t.Helper()
	if err != want {
		t.Errorf("%v: error %v, want %v", what, err, want)
	}
	return err == want
}

func long(n, with int) []int {
	l := make([]int, n)
	for i := range l {
		l[i] = with
	}
	return l
}

func TestNormal(t *testing.T) { // P10
	for _, c := range []struct{ r, want []int }{
		{nil, nil},
		{[]int{}, nil},
		{[]int{0}, []int{0}},
		{[]int{0, 0, 0}, []int{0, 0, 0}},
		{[]int{7}, []int{1}},
		{[]int{-7}, []int{-1}},
		{[]int{0, -6, 4}, []int{0, -3, 2}},
		{[]int{6, 10, 15}, []int{6, 10, 15}},
		{[]int{12, 18, 0, 30}, []int{2, 3, 0, 5}},
		{[]int{math.MinInt}, []int{-1}},
		{[]int{math.MinInt, 0, math.MinInt}, []int{-1, 0, -1}},
		{[]int{math.MinInt, 6}, []int{math.MinInt / 2, 3}},
		{[]int{math.MinInt, math.MaxInt}, []int{math.MinInt, math.MaxInt}},
		{long(100, 9), long(100, 1)},
	} {
		if got := Normal(c.r); fmt.Sprint(got) != fmt.Sprint(c.want) {
			t.Errorf("Normal(%v) = %v, want %v", c.r, got, c.want)
		}
	}
}

func TestDot(t *testing.T) { // P10
	for _, c := range []struct {
		a, b []int
		want int
		err  error
	}{
		{nil, nil, 0, nil},
		{nil, []int{}, 0, nil},
		{[]int{1, 2, 3}, []int{4, -5, 6}, 12, nil},
		{[]int{most}, []int{most}, told, nil},
		{[]int{-most}, []int{most}, -told, nil},
		{[]int{most, most, most}, []int{most, most, -most}, told, nil},
		{[]int{most, most, most, most, 1}, []int{most, most, -most, -most, -3}, -3, nil},
		{[]int{most, 1}, []int{most, 1}, 0, api.ErrBound},
		{[]int{-most, 1}, []int{most, -1}, 0, api.ErrBound},
		{long(4, most), long(4, most), 0, api.ErrBound},
		{long(1000, most), long(1000, -most), 0, api.ErrBound},
		{long(1000, 3), long(1000, -2), -6000, nil},
		{[]int{1}, nil, 0, api.ErrShape},
		{[]int{most + 1}, []int{1, 2}, 0, api.ErrShape},
		{[]int{most + 1}, []int{0}, 0, api.ErrBound},
		{[]int{0}, []int{-most - 1}, 0, api.ErrBound},
		{[]int{math.MinInt}, []int{0}, 0, api.ErrBound},
	} {
		got, err := Dot(c.a, c.b)
		if wanted(t, "Dot", err, c.err) && got != c.want {
			t.Errorf("Dot(%v, %v) = %d, want %d", c.a, c.b, got, c.want)
		}
	}
}

type badMatrix struct {
	name string
	m    [][]int
	err  error
}

// badMatrices with the first error that is so, in the order of P11.
func badMatrices() []badMatrix {
	return []badMatrix{
		{"too many rows", make([][]int, api.MaxRows+1), api.ErrBound},
		{"too long a row", [][]int{long(api.MaxRows+1, 0)}, api.ErrBound},
		{"unlike lengths", [][]int{{1, 2}, {1}}, api.ErrShape},
		{"an empty row among others", [][]int{{1}, nil}, api.ErrShape},
		{"too great", [][]int{{0, 0}, {0, most + 1}}, api.ErrBound},
		{"too far below", [][]int{{-most - 1}}, api.ErrBound},
		{"the least int", [][]int{{math.MinInt}}, api.ErrBound},
		{"too long ahead of unlike", [][]int{{1}, long(api.MaxRows+1, 0)}, api.ErrBound},
		{"unlike ahead of too great", [][]int{{most + 1}, {1, 2}}, api.ErrShape},
	}
}

func TestValid(t *testing.T) { // P11
	for _, c := range badMatrices() {
		wanted(t, c.name, Valid(c.m), c.err)
	}
	full := make([][]int, api.MaxRows)
	for i := range full {
		full[i] = long(api.MaxRows, most-2*most*(i%2))
	}
	for _, m := range [][][]int{nil, {}, {nil}, {nil, {}}, {{0}}, {{most}, {-most}}, full, make([][]int, api.MaxRows)} {
		wanted(t, m, Valid(m), nil)
	}
}

func TestEchelon(t *testing.T) { // P12
	for _, c := range []struct {
		m    [][]int
		want string
	}{
		{nil, "[]"},
		{[][]int{nil, {}}, "[]"},
		{[][]int{{0, 0}, {0, 0}}, "[]"},
		{[][]int{{-4}}, "[[1]]"},
		{[][]int{{0, -2, 4}}, "[[0 1 -2]]"},
		{[][]int{{2, 4}, {1, 3}}, "[[1 0] [0 1]]"},
		{[][]int{{1, 2, 3}, {4, 5, 6}, {7, 8, 9}}, "[[1 0 -1] [0 1 2]]"},
		{[][]int{{0, 0, 3}, {0, 5, 0}, {7, 0, 0}}, "[[1 0 0] [0 1 0] [0 0 1]]"},
		{[][]int{{0, 0, 2, 3}, {2, 3, 0, 0}}, "[[2 3 0 0] [0 0 2 3]]"},
		{[][]int{{3, 1, 1}, {0, 2, 1}}, "[[6 0 1] [0 2 1]]"},
		{[][]int{{most, -most}, {-most, -most}}, "[[1 0] [0 1]]"},
	} {
		got, err := Echelon(c.m)
		if wanted(t, c.m, err, nil) && fmt.Sprint(got) != c.want {
			t.Errorf("Echelon(%v) = %v, want %s", c.m, got, c.want)
		}
		n, err := Rank(c.m)
		if wanted(t, c.m, err, nil) && n != len(got) {
			t.Errorf("Rank(%v) = %d, want %d", c.m, n, len(got))
		}
	}
}

// atBound has the reduced rows 1 0 a, and 0 1 most (or -most): a is most times most, or its opposite, and more above it.
func atBound(sign, more int) [][]int {
	return [][]int{{0, 1, sign * most}, {-1, most, -sign * more}}
}

func TestEchelonBound(t *testing.T) { // P12
	for _, sign := range []int{1, -1} {
		got, err := Echelon(atBound(sign, 0))
		want := [][]int{{1, 0, sign * told}, {0, 1, sign * most}}
		if wanted(t, "at the bound", err, nil) && fmt.Sprint(got) != fmt.Sprint(want) {
			t.Errorf("%v, want %v", got, want)
		}
		got, err = Echelon(atBound(sign, 1))
		if wanted(t, "above the bound", err, api.ErrBound) && len(got) != 0 {
			t.Errorf("with an error: %v", got)
		}
		n, err := Rank(atBound(sign, 1))
		if wanted(t, "rank above the bound", err, nil) && n != 2 {
			t.Errorf("rank %d, want 2", n)
		}
	}
}

func TestMatrixErrors(t *testing.T) { // P12, P13
	for _, c := range badMatrices() {
		l, err := Echelon(c.m)
		if wanted(t, "Echelon: "+c.name, err, c.err) && len(l) != 0 {
			t.Errorf("Echelon: %s: %v", c.name, l)
		}
		n, err := Rank(c.m)
		if wanted(t, "Rank: "+c.name, err, c.err) && n != 0 {
			t.Errorf("Rank: %s: %d", c.name, n)
		}
		r, err := Reduce(long(api.MaxRows+1, most+1), c.m)
		if wanted(t, "Reduce: "+c.name, err, c.err) && len(r) != 0 {
			t.Errorf("Reduce: %s: %v", c.name, r)
		}
	}
}

func TestReduce(t *testing.T) { // P13
	for _, c := range []struct {
		r    []int
		m    [][]int
		want string
	}{
		{nil, nil, "[]"},
		{[]int{}, [][]int{nil}, "[]"},
		{[]int{4, -6}, nil, "[2 -3]"},
		{long(api.MaxRows, most), nil, fmt.Sprint(long(api.MaxRows, 1))},
		{[]int{4, -6}, [][]int{{0, 0}}, "[2 -3]"},
		{[]int{3, 5, 1}, [][]int{{2, 4, 0}}, "[0 -1 1]"},
		{[]int{-3, -5, -1}, [][]int{{-2, -4, 0}}, "[0 1 -1]"},
		{[]int{1, 0, 0}, [][]int{{2, 3, 5}}, "[0 -3 -5]"},
		{[]int{1, 2, 3}, [][]int{{1, 1, 1}, {0, 1, 2}}, "[0 0 0]"},
		{[]int{0, 0, 9}, [][]int{{1, 1, 1}, {0, 1, 2}}, "[0 0 1]"},
		{[]int{-1, most, 0}, [][]int{{0, 1, most}}, fmt.Sprint([]int{-1, 0, -told})},
		{[]int{0, 0, -5}, atBound(1, 1), "[0 0 -1]"},
	} {
		got, err := Reduce(c.r, c.m)
		if wanted(t, c, err, nil) && fmt.Sprint(got) != c.want {
			t.Errorf("Reduce(%v, %v) = %v, want %s", c.r, c.m, got, c.want)
		}
	}
}

func TestReduceErrors(t *testing.T) { // P13
	for _, c := range []struct {
		r   []int
		m   [][]int
		err error
	}{
		{[]int{1}, [][]int{{1, 2}}, api.ErrShape},
		{nil, [][]int{{1}}, api.ErrShape},
		{[]int{1}, [][]int{nil}, api.ErrShape},
		{[]int{most + 1}, [][]int{{1, 2}}, api.ErrShape},
		{long(api.MaxRows+1, 0), [][]int{{1, 2}}, api.ErrShape},
		{long(api.MaxRows+1, 0), nil, api.ErrBound},
		{[]int{most + 1}, nil, api.ErrBound},
		{[]int{0, -most - 1}, [][]int{{1, 2}}, api.ErrBound},
		{[]int{math.MinInt}, nil, api.ErrBound},
		{[]int{-1, most, -1}, [][]int{{0, 1, most}}, api.ErrBound},
		{[]int{1, -most, 1}, [][]int{{0, 1, most}}, api.ErrBound},
	} {
		got, err := Reduce(c.r, c.m)
		if wanted(t, c, err, c.err) && len(got) != 0 {
			t.Errorf("Reduce(%v, %v) = %v with an error", c.r, c.m, got)
		}
	}
}

func TestCombine(t *testing.T) { // P14
	for _, c := range []struct {
		a    []int
		x    int
		b    []int
		y    int
		want []int
	}{
		{nil, 1, nil, 1, nil},
		{[]int{1, 2}, 2, []int{0, 1}, 4, []int{1, 4}},
		{[]int{1, 2}, -1, []int{1, 2}, 1, []int{0, 0}},
		{[]int{1, 2}, 0, []int{-3, 6}, 5, []int{-1, 2}},
		{[]int{5, 5}, 0, []int{3, 6}, 0, []int{0, 0}},
		{[]int{most}, most, []int{most}, most, []int{1}},
		{[]int{most}, most, []int{most}, -most, []int{0}},
		{[]int{-most, 1}, most, []int{-most, 0}, most, []int{-2 * most, 1}},
		{[]int{most - 1, 1}, most - 1, []int{most - 2, 0}, most - 2, []int{(most-1)*(most-1) + (most-2)*(most-2), most - 1}},
		{long(100, 1), 2, long(100, 1), 3, long(100, 1)},
	} {
		got, err := Combine(c.a, c.x, c.b, c.y)
		if wanted(t, c, err, nil) && fmt.Sprint(got) != fmt.Sprint(c.want) {
			t.Errorf("Combine(%v, %d, %v, %d) = %v, want %v", c.a, c.x, c.b, c.y, got, c.want)
		}
	}
}

func TestCombineErrors(t *testing.T) { // P14
	for _, c := range []struct {
		a   []int
		x   int
		b   []int
		y   int
		err error
	}{
		{[]int{1}, 1, nil, 1, api.ErrShape},
		{[]int{most + 1}, most + 1, []int{1, 2}, 1, api.ErrShape},
		{[]int{most + 1}, 0, []int{1}, 1, api.ErrBound},
		{[]int{1}, 0, []int{-most - 1}, 0, api.ErrBound},
		{nil, most + 1, nil, 0, api.ErrBound},
		{nil, 0, nil, -most - 1, api.ErrBound},
		{nil, math.MinInt, nil, math.MinInt, api.ErrBound},
	} {
		got, err := Combine(c.a, c.x, c.b, c.y)
		if wanted(t, c, err, c.err) && len(got) != 0 {
			t.Errorf("with an error: %v", got)
		}
		if !errors.Is(err, c.err) {
			t.Errorf("%v is not %v", err, c.err)
		}
	}
}

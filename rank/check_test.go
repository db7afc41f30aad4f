package rank

import (
	"math"
	"slices"
	"testing"

	"raycone/api"
	"raycone/farkas"
)

const over = api.MaxEntry + 1

func wrongLoops() []Loop {
	row := func(a ...int) []api.Row { return []api.Row{{A: a}} }
	return []Loop{
		{}, {Dim: -1}, {Dim: 3}, {Dim: math.MaxInt}, {Dim: math.MinInt}, {Dim: 1 << 62},
		{Dim: 1, Rows: row(1)}, {Dim: 1, Rows: row(1, 2, 3)}, {Dim: 2, Rows: row(1, 2)}, {Dim: 1, Rows: row()},
		{Dim: 1, Rows: row(over, 0)}, {Dim: 2, Rows: row(0, 0, 0, math.MinInt)}, {Dim: 1, Rows: []api.Row{{A: []int{0, 0}, B: -over}}},
		{Dim: 2, Rows: slices.Repeat(row(0, 0, 0, 0), api.MaxRows+1)},
	}
}

// P190: which loops there are.
func TestValid(t *testing.T) {
	for i, want := range []error{
		api.ErrBound, api.ErrBound, api.ErrBound, api.ErrBound, api.ErrBound, api.ErrBound,
		api.ErrShape, api.ErrShape, api.ErrShape, api.ErrShape,
		api.ErrBound, api.ErrBound, api.ErrBound, api.ErrBound,
	} {
		if l := wrongLoops()[i]; Valid(l) != want {
			t.Error(l, Valid(l), want)
		}
	}
	// Dim is told ahead of rows.
	if err := Valid(Loop{Dim: 3, Rows: []api.Row{{A: []int{1}}}}); err != api.ErrBound {
		t.Error(err)
	}
	for _, l := range []Loop{
		{Dim: 1}, {Dim: 2}, loop(1, "x0 >= 3, x0 - x1 >= 2"), loop(2, "2147483648 x0 - 2147483648 x3 >= -2147483648"),
		{Dim: 2, Rows: slices.Repeat([]api.Row{{A: []int{1, 0, 0, 0}}}, api.MaxRows)},
	} {
		if err := Valid(l); err != nil {
			t.Error(l, err)
		}
	}
}

func proof(den int, weights ...int) farkas.Proof { return farkas.Proof{Weights: weights, Den: den} }

// P191: what was worked out by hand.
func TestCheck(t *testing.T) {
	down := loop(1, "x0 >= 3, x0 - x1 >= 2")
	two := loop(2, "-x0 + x1 >= 0, x0 - x2 = -1, x1 - x3 = 0")
	none := loop(1, "0 >= 1")
	for i, c := range []struct {
		l    Loop
		r    Rank
		want bool
	}{
		{down, Rank{[]int{1}, 3, 2, proof(1, 1, 0), proof(1, 0, 1)}, true},
		{down, Rank{[]int{1}, -5, 1, proof(1, 1, 0), proof(1, 0, 1)}, true},
		{down, Rank{[]int{1}, 4, 2, proof(1, 1, 0), proof(1, 0, 1)}, false},
		{down, Rank{[]int{1}, 3, 3, proof(1, 1, 0), proof(1, 0, 1)}, false},
		{down, Rank{[]int{1}, 3, 2, proof(1, 0, 1), proof(1, 0, 1)}, false},
		{down, Rank{[]int{1}, 3, 2, proof(1, 1, 0), proof(1, 1, 0)}, false},
		{down, Rank{[]int{1}, 3, 2, proof(1, 1, 0), proof(2, 0, 1)}, false},
		{down, Rank{[]int{1}, 3, 2, proof(2, 2, 0), proof(2, 0, 2)}, true},
		{down, Rank{[]int{2}, 6, 4, proof(1, 2, 0), proof(1, 0, 2)}, true},
		{down, Rank{[]int{2}, 3, 2, proof(1, 1, 0), proof(1, 0, 1)}, false},
		{down, Rank{[]int{-1}, -3, 2, proof(1, -1, 0), proof(1, 0, 1)}, false},
		{down, Rank{[]int{0}, 0, 1, proof(1, 0, 0), proof(1, 0, 0)}, false},
		{down, Rank{[]int{0}, -1, 1, proof(1, 0, 0), proof(1, 0, 1)}, false},
		{two, Rank{[]int{-1, 1}, 0, 1, proof(1, 1, 0, 0), proof(1, 0, -1, 1)}, true},
		{two, Rank{[]int{-1, 1}, 0, 1, proof(1, 1, 0, 0), proof(1, 0, -1, 0)}, false},
		{two, Rank{[]int{-1, 1}, 1, 1, proof(1, 1, 0, 0), proof(1, 0, -1, 1)}, false},
		{two, Rank{[]int{1, -1}, 0, 1, proof(1, 1, 0, 0), proof(1, 0, -1, 1)}, false},
		{two, Rank{[]int{-1, 1}, 0, 1, proof(1, -1, 0, 0), proof(1, 0, -1, 1)}, false},
		// Where there are no rounds anything is a rank.
		{none, Rank{[]int{7}, 9, 9, proof(1, 1), proof(5, 1)}, true},
		{none, Rank{[]int{7}, 9, 9, proof(1, 1), proof(1, 0)}, false},
		{none, Rank{[]int{-api.MaxEntry}, api.MaxEntry, api.MaxEntry, proof(api.MaxTold, 1), proof(1, api.MaxTold)}, true},
	} {
		if got, err := Check(c.l, c.r); got != c.want || err != nil {
			t.Error(i, got, err)
		}
	}
}

// P191: errors, in their order.
func TestCheckErrors(t *testing.T) {
	down := loop(1, "x0 >= 3, x0 - x1 >= 2")
	a, b := proof(1, 1, 0), proof(1, 0, 1)
	for i, c := range []struct {
		l    Loop
		r    Rank
		want error
	}{
		{Loop{}, Rank{}, api.ErrBound},
		{Loop{Dim: 1, Rows: []api.Row{{A: []int{1}}}}, Rank{[]int{over}, 0, 1, proof(1, 1), proof(1, 1)}, api.ErrShape},
		{Loop{Dim: 1, Rows: []api.Row{{A: []int{over, 0}}}}, Rank{}, api.ErrBound},
		{down, Rank{}, api.ErrShape},
		{down, Rank{nil, 3, 2, a, b}, api.ErrShape},
		{down, Rank{[]int{1, 0}, 3, 2, a, b}, api.ErrShape},
		{down, Rank{[]int{over, 0}, over, 2, a, b}, api.ErrShape},
		{down, Rank{[]int{1}, 3, 0, a, b}, api.ErrShape},
		{down, Rank{[]int{1}, 3, -1, a, b}, api.ErrShape},
		{down, Rank{[]int{1}, 3, math.MinInt, a, b}, api.ErrShape},
		{down, Rank{[]int{over}, 3, 0, a, b}, api.ErrShape},
		{down, Rank{[]int{1}, 3, 2, proof(0, 1, 0), b}, api.ErrShape},
		{down, Rank{[]int{1}, 3, 2, a, proof(0, 0, 1)}, api.ErrShape},
		{down, Rank{[]int{1}, 3, 2, a, proof(-1, 0, 1)}, api.ErrShape},
		{down, Rank{[]int{1}, 3, 2, proof(1, 1), b}, api.ErrShape},
		{down, Rank{[]int{1}, 3, 2, a, proof(1, 0, 1, 0)}, api.ErrShape},
		{down, Rank{[]int{1}, 3, 2, farkas.Proof{}, b}, api.ErrShape},
		{down, Rank{[]int{over}, 3, 2, a, proof(0, 0, 1)}, api.ErrShape},
		{down, Rank{[]int{1}, 3, over, proof(1, 1), b}, api.ErrShape},
		{down, Rank{[]int{1}, over, 2, a, proof(1, 1)}, api.ErrShape},
		{down, Rank{[]int{over}, 3, 2, a, b}, api.ErrBound},
		{down, Rank{[]int{-over}, 3, 2, a, b}, api.ErrBound},
		{down, Rank{[]int{math.MinInt}, 3, 2, a, b}, api.ErrBound},
		{down, Rank{[]int{1}, over, 2, a, b}, api.ErrBound},
		{down, Rank{[]int{1}, -over, 2, a, b}, api.ErrBound},
		{down, Rank{[]int{1}, math.MinInt, 2, a, b}, api.ErrBound},
		{down, Rank{[]int{1}, 3, over, a, b}, api.ErrBound},
		{down, Rank{[]int{1}, 3, math.MaxInt, a, b}, api.ErrBound},
		{down, Rank{[]int{1}, 3, 2, proof(api.MaxTold+1, 1, 0), b}, api.ErrBound},
		{down, Rank{[]int{1}, 3, 2, a, proof(1, 0, api.MaxTold+1)}, api.ErrBound},
		{down, Rank{[]int{1}, 3, 2, a, proof(1, 0, math.MinInt)}, api.ErrBound},
		{down, Rank{[]int{1}, 3, 2, a, proof(1, 0, api.MaxTold)}, nil},
		{down, Rank{[]int{api.MaxEntry}, -api.MaxEntry, api.MaxEntry, a, b}, nil},
	} {
		if ok, err := Check(c.l, c.r); err != c.want || ok {
			t.Error(i, ok, err, c.want)
		}
	}
	for _, l := range wrongLoops() {
		if ok, err := Check(l, Rank{F: []int{1}, Fall: 1}); ok || err != Valid(l) {
			t.Error(l, ok, err)
		}
	}
}

// P191: ranks that are found, and such that are a little beside one.
func TestAlwaysCheck(t *testing.T) {
	m, seen := makerOf(7), map[bool]int{}
	for range 6000 {
		l := m.loop(3, 5)
		r, is, err := Find(l)
		if err != nil {
			t.Fatal(said(t, l), err)
		}
		if !is {
			continue
		}
		switch n := m.Intn(6); {
		case n == 0:
			r.F[m.Intn(l.Dim)] += m.number(1)
		case n == 1:
			r.Low += m.number(1)
		case n == 2:
			r.Fall += m.Intn(2)
		case n == 3:
			r.A.Den += m.Intn(2)
		case n == 4 && len(l.Rows) > 0:
			r.A.Weights[m.Intn(len(l.Rows))] += m.number(1)
		case len(l.Rows) > 0:
			r.B.Weights[m.Intn(len(l.Rows))] += m.number(1)
		}
		want := isProved(l, r)
		if got, err := Check(l, r); got != want || err != nil {
			t.Fatal(said(t, l), r, got, err, want)
		}
		if want && !isRank(t, l, r) {
			t.Fatal(said(t, l), r)
		}
		seen[want]++
	}
	if seen[true] < 500 || seen[false] < 500 {
		t.Error(seen)
	}
}

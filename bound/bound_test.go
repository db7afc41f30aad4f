package bound

import (
	"math"
	"slices"
	"testing"

	"raycone/api"
	"raycone/wide"
)

func TestGreat(t *testing.T) {
	for _, c := range []struct {
		l    []int
		want bool
	}{
		{nil, false},
		{[]int{0, api.MaxEntry, -api.MaxEntry}, false},
		{[]int{0, api.MaxEntry + 1}, true},
		{[]int{-api.MaxEntry - 1, 0}, true},
		{[]int{math.MinInt}, true},
		{[]int{math.MaxInt}, true},
	} {
		if got := Great(c.l...); got != c.want {
			t.Error(c.l, got)
		}
	}
}

func TestFar(t *testing.T) {
	for _, c := range []struct {
		n    int
		want bool
	}{
		{0, false},
		{api.MaxBound, false},
		{-api.MaxBound, false},
		{api.MaxBound + 1, true},
		{-api.MaxBound - 1, true},
		{math.MaxInt, true},
		{math.MinInt, true},
	} {
		if got := Far(c.n); got != c.want {
			t.Error(c.n, got)
		}
	}
}

func TestTell(t *testing.T) {
	most := []int{api.MaxTold, -api.MaxTold, 0}
	if got, err := Tell(wide.RowOf(most)); !slices.Equal(got, most) || err != nil {
		t.Error(got, err)
	}
	over := wide.From(math.MaxInt)
	for _, n := range []wide.Num{wide.From(api.MaxTold + 1), wide.From(-api.MaxTold - 1), over.Plus(over), over.Times(over).Negated()} {
		if got, err := Tell(wide.Row{wide.From(1), n}); len(got) != 0 || err != api.ErrBound {
			t.Error(n, got, err)
		}
		if got, err := TellAll([]wide.Row{wide.RowOf(most), {n}}); len(got) != 0 || err != api.ErrBound {
			t.Error(n, got, err)
		}
	}
	got, err := TellAll(wide.RowsOf([][]int{most, {1}, {}}))
	if !slices.EqualFunc(got, [][]int{most, {1}, {}}, slices.Equal[[]int]) || err != nil {
		t.Error(got, err)
	}
}

func TestCount(t *testing.T) {
	if Count[int]() != 0 || Count[int](nil, nil) != 0 || Count([]int{1, 2}, nil, []int{3}) != 3 {
		t.Error(Count[int](), Count[int](nil, nil), Count([]int{1, 2}, nil, []int{3}))
	}
}

// All kinds together have one bound.
func TestTellKinds(t *testing.T) {
	rows := func(n int) []wide.Row { return slices.Repeat([]wide.Row{wide.RowOf([]int{1, -2})}, n) }
	for _, c := range []struct {
		kinds []int
		want  error
	}{
		{nil, nil},
		{[]int{0}, nil},
		{[]int{60}, nil},
		{[]int{20, 0, 40}, nil},
		{[]int{61}, api.ErrBound},
		{[]int{30, 31}, api.ErrBound},
		{[]int{20, 20, 20, 1}, api.ErrBound},
	} {
		var kinds [][]wide.Row
		for _, n := range c.kinds {
			kinds = append(kinds, rows(n))
		}
		told, err := TellKinds(kinds...)
		if err != c.want || err != nil && len(told) != 0 || err == nil && len(told) != len(c.kinds) {
			t.Error(c, told, err)
			continue
		}
		for i, l := range told {
			if len(l) != c.kinds[i] || slices.ContainsFunc(l, func(r []int) bool { return !slices.Equal(r, []int{1, -2}) }) {
				t.Error(c, l)
			}
		}
	}
	great := []wide.Row{wide.RowOf([]int{0, api.MaxTold + 1})}
	if told, err := TellKinds(rows(1), great); len(told) != 0 || err != api.ErrBound {
		t.Error(told, err)
	}
}

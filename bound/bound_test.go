package bound

import (
	"math"
	"slices"
	"testing"

	"raycone/api"
	"raycone/wide"
)

func TestGreat(t *testing.T) {
	for _, c := range []struct {
		l    []int
		want bool
	}{
		{nil, false},
		{[]int{0, api.MaxEntry, -api.MaxEntry}, false},
		{[]int{0, api.MaxEntry + 1}, true},
		{[]int{-api.MaxEntry - 1, 0}, true},
		{[]int{math.MinInt}, true},
		{[]int{math.MaxInt}, true},
	} {
		if got := Great(c.l...); got != c.want {
			t.Error(c.l, got)
		}
	}
}

func TestTell(t *testing.T) {
	most := []int{api.MaxTold, -api.MaxTold, 0}
	if got, err := Tell(wide.RowOf(most)); !slices.Equal(got, most) || err != nil {
		t.Error(got, err)
	}
	over := wide.From(math.MaxInt)
	for _, n := range []wide.Num{wide.From(api.MaxTold + 1), wide.From(-api.MaxTold - 1), over.Plus(over), over.Times(over).Negated()} {
		if got, err := Tell(wide.Row{wide.From(1), n}); len(got) != 0 || err != api.ErrBound {
			t.Error(n, got, err)
		}
		if got, err := TellAll([]wide.Row{wide.RowOf(most), {n}}); len(got) != 0 || err != api.ErrBound {
			t.Error(n, got, err)
		}
	}
	got, err := TellAll(wide.RowsOf([][]int{most, {1}, {}}))
	if !slices.EqualFunc(got, [][]int{most, {1}, {}}, slices.Equal[[]int]) || err != nil {
		t.Error(got, err)
	}
}

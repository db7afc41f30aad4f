package ops

import (
	"slices"

	"raycone/api"
	"raycone/bound"
	"raycone/exact"
	"raycone/poly"
	"raycone/wide"
)

// Map of points: of each number that comes a row, with what is added.
type Map [][]int

// valid tells whether points of dim numbers can be put through.
func (m Map) valid(dim int) error {
	unlike := func(r []int) bool { return len(r)-1 != dim }
	great := func(r []int) bool { return bound.Great(r...) }
	switch {
	case slices.ContainsFunc(m, unlike):
		return api.ErrShape
	case len(m) > api.MaxDim || dim < 0 || dim > api.MaxDim || slices.ContainsFunc(m, great):
		return api.ErrBound
	}
	return nil
}

// whole map of points of dim numbers with Den behind them, by which Den stays as it is; so what is added is added Den times, and to a ray, which has 0 there, not at all.
func (m Map) whole(dim int) []wide.Row {
	last := make([]int, dim+1)
	last[dim] = 1
	return append(wide.RowsOf(m), wide.RowOf(last))
}

// Image by a map.
func Image(p api.Poly, m Map) (api.Poly, error) {
	if err := poly.Valid(p); err != nil {
		return api.Poly{}, err
	}
	if err := m.valid(p.Dim); err != nil {
		return api.Poly{}, err
	}
	whole := m.whole(p.Dim)
	return through(p, len(m), func(g wide.Row) wide.Row { return each(whole, g.Dot) })
}

// Before a map.
func Before(p api.Poly, dim int, m Map) (api.Poly, error) {
	if err := poly.Valid(p); err != nil {
		return api.Poly{}, err
	}
	if len(m) != p.Dim {
		return api.Poly{}, api.ErrShape
	}
	if err := m.valid(dim); err != nil {
		return api.Poly{}, err
	}
	whole := m.whole(dim)
	// What a row asks of a point that comes, it asks of the numbers ahead by way of the map's rows.
	ahead := func(r wide.Row) wide.Row {
		sum := make(wide.Row, dim+1)
		for i, n := range r {
			sum = sum.Sum(wide.From(1), whole[i], n)
		}
		return sum
	}
	up, even := exact.Split(p.Rows)
	return exact.ByRows(dim, each(up, ahead), each(even, ahead)).Rows()
}

// Package rows: rows of whole numbers: see ../shared/doc/01-rows.md.
package rows

import (
	"slices"

	"raycone/api"
	"raycone/wide"
)

// Normal row.
func Normal(r []int) []int {
	l, _ := wide.RowOf(r).Normal().Ints()
	return l
}

// Dot product.
func Dot(a, b []int) (int, error) {
	if err := validPair(a, b); err != nil {
		return 0, err
	}
	sum := wide.RowOf(a).Dot(wide.RowOf(b))
	if sum.Above(api.MaxTold) {
		return 0, api.ErrBound
	}
	n, _ := sum.Int()
	return n, nil
}

// Valid matrix?
func Valid(m [][]int) error {
	long := func(r []int) bool { return len(r) > api.MaxRows }
	unlike := func(r []int) bool { return len(r) != len(m[0]) }
	switch {
	case len(m) > api.MaxRows || slices.ContainsFunc(m, long):
		return api.ErrBound
	case slices.ContainsFunc(m, unlike):
		return api.ErrShape
	case slices.ContainsFunc(m, hasGreat):
		return api.ErrBound
	}
	return nil
}

// Echelon: reduced rows.
func Echelon(m [][]int) ([][]int, error) {
	reduced, err := reducedRows(m)
	if err != nil {
		return nil, err
	}
	told := make([][]int, len(reduced))
	for i, r := range reduced {
		if told[i], err = tell(r); err != nil {
			return nil, err
		}
	}
	return told, nil
}

// Rank of a matrix.
func Rank(m [][]int) (int, error) {
	reduced, err := reducedRows(m)
	return len(reduced), err
}

// Reduce a row by a matrix.
func Reduce(r []int, m [][]int) ([]int, error) {
	reduced, err := reducedRows(m)
	switch {
	case err != nil:
		return nil, err
	case len(m) > 0 && len(r) != len(m[0]):
		return nil, api.ErrShape
	case len(r) > api.MaxRows || hasGreat(r):
		return nil, api.ErrBound
	}
	return tell(wide.RowOf(r).Rest(reduced))
}

// Combine two rows. It tells numbers above api.MaxTold too: the document names no error for them, and an int always holds them.
func Combine(a []int, x int, b []int, y int) ([]int, error) {
	if err := validPair(a, b); err != nil {
		return nil, err
	}
	if hasGreat([]int{x, y}) {
		return nil, api.ErrBound
	}
	l, _ := wide.RowOf(a).Sum(wide.From(x), wide.RowOf(b), wide.From(y)).Normal().Ints()
	return l, nil
}

func validPair(a, b []int) error {
	switch {
	case len(a) != len(b):
		return api.ErrShape
	case hasGreat(a) || hasGreat(b):
		return api.ErrBound
	}
	return nil
}

// hasGreat tells whether a number is too great to be handed in.
func hasGreat(r []int) bool {
	return slices.ContainsFunc(r, func(n int) bool { return wide.From(n).Above(api.MaxEntry) })
}

// reducedRows are of any size: only what is told has a bound.
func reducedRows(m [][]int) ([]wide.Row, error) {
	if err := Valid(m); err != nil {
		return nil, err
	}
	l := make([]wide.Row, len(m))
	for i, r := range m {
		l[i] = wide.RowOf(r)
	}
	return wide.Reduced(l), nil
}

func tell(r wide.Row) ([]int, error) {
	if r.Any(func(n wide.Num) bool { return n.Above(api.MaxTold) }) {
		return nil, api.ErrBound
	}
	l, _ := r.Ints()
	return l, nil
}

// Package rows: rows of whole numbers: see ../shared/doc/01-rows.md.
package rows

import (
	"slices"

	"raycone/api"
	"raycone/bound"
	"raycone/wide"
)

// Normal row.
func Normal(r []int) []int {
	l, _ := wide.RowOf(r).Normal().Ints()
	return l
}

// Dot product.
func Dot(a, b []int) (int, error) {
	if err := validPair(a, b); err != nil {
		return 0, err
	}
	sum := wide.RowOf(a).Dot(wide.RowOf(b))
	if sum.Above(api.MaxTold) {
		return 0, api.ErrBound
	}
	n, _ := sum.Int()
	return n, nil
}

// Valid matrix?
func Valid(m [][]int) error {
	long := func(r []int) bool { return len(r) > api.MaxRows }
	unlike := func(r []int) bool { return len(r) != len(m[0]) }
	great := func(r []int) bool { return bound.Great(r...) }
	switch {
	case len(m) > api.MaxRows || slices.ContainsFunc(m, long):
		return api.ErrBound
	case slices.ContainsFunc(m, unlike):
		return api.ErrShape
	case slices.ContainsFunc(m, great):
		return api.ErrBound
	}
	return nil
}

// Echelon: reduced rows.
func Echelon(m [][]int) ([][]int, error) {
	reduced, err := reducedRows(m)
	if err != nil {
		return nil, err
	}
	return bound.TellAll(reduced)
}

// Rank of a matrix.
func Rank(m [][]int) (int, error) {
	reduced, err := reducedRows(m)
	return len(reduced), err
}

// Reduce a row by a matrix.
func Reduce(r []int, m [][]int) ([]int, error) {
	reduced, err := reducedRows(m)
	switch {
	case err != nil:
		return nil, err
	case len(m) > 0 && len(r) != len(m[0]):
		return nil, api.ErrShape
	case len(r) > api.MaxRows || bound.Great(r...):
		return nil, api.ErrBound
	}
	return bound.Tell(wide.RowOf(r).Rest(reduced))
}

// Combine two rows. It tells numbers above api.MaxTold too: the document names no error for them, and an int always holds them.
func Combine(a []int, x int, b []int, y int) ([]int, error) {
	if err := validPair(a, b); err != nil {
		return nil, err
	}
	if bound.Great(x, y) {
		return nil, api.ErrBound
	}
	l, _ := wide.RowOf(a).Sum(wide.From(x), wide.RowOf(b), wide.From(y)).Normal().Ints()
	return l, nil
}

func validPair(a, b []int) error {
	switch {
	case len(a) != len(b):
		return api.ErrShape
	case bound.Great(a...) || bound.Great(b...):
		return api.ErrBound
	}
	return nil
}

// reducedRows are of any size: only what is told has a bound.
func reducedRows(m [][]int) ([]wide.Row, error) {
	if err := Valid(m); err != nil {
		return nil, err
	}
	return wide.Reduced(wide.RowsOf(m)), nil
}

// Package bound: which numbers may be handed in, and which may be told.
package bound

import (
	"slices"

	"raycone/api"
	"raycone/wide"
)

// Great tells whether one of the numbers is too great to be handed in.
func Great(l ...int) bool {
	return slices.ContainsFunc(l, func(n int) bool { return wide.From(n).Above(api.MaxEntry) })
}

// Far tells whether the number is too great for a bound of an interval.
func Far(n int) bool { return n < -api.MaxBound || n > api.MaxBound }

// Tell a row, if none of its numbers is too great.
func Tell(r wide.Row) ([]int, error) {
	if r.Any(func(n wide.Num) bool { return n.Above(api.MaxTold) }) {
		return nil, api.ErrBound
	}
	l, _ := r.Ints()
	return l, nil
}

// TellAll rows, if none of their numbers is too great.
func TellAll(l []wide.Row) ([][]int, error) {
	told := make([][]int, len(l))
	for i, r := range l {
		var err error
		if told[i], err = Tell(r); err != nil {
			return nil, err
		}
	}
	return told, nil
}

// TellKinds of rows, if there are not too many of all kinds together, and none of their numbers is too great.
func TellKinds(kinds ...[]wide.Row) ([][][]int, error) {
	if Count(kinds...) > api.MaxMany {
		return nil, api.ErrBound
	}
	told := make([][][]int, len(kinds))
	for i, l := range kinds {
		var err error
		if told[i], err = TellAll(l); err != nil {
			return nil, err
		}
	}
	return told, nil
}

// Count of all kinds together.
func Count[R any](kinds ...[]R) int {
	n := 0
	for _, l := range kinds {
		n += len(l)
	}
	return n
}

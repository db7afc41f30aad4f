// Package bound: which numbers may be handed in, and which may be told.
package bound

import (
	"slices"

	"raycone/api"
	"raycone/wide"
)

// Great tells whether one of the numbers is too great to be handed in.
func Great(l ...int) bool {
	return slices.ContainsFunc(l, func(n int) bool { return wide.From(n).Above(api.MaxEntry) })
}

// Tell a row, if none of its numbers is too great.
func Tell(r wide.Row) ([]int, error) {
	if r.Any(func(n wide.Num) bool { return n.Above(api.MaxTold) }) {
		return nil, api.ErrBound
	}
	l, _ := r.Ints()
	return l, nil
}

// TellAll rows, if none of their numbers is too great.
func TellAll(l []wide.Row) ([][]int, error) {
	told := make([][]int, len(l))
	for i, r := range l {
		var err error
		if told[i], err = Tell(r); err != nil {
			return nil, err
		}
	}
	return told, nil
}

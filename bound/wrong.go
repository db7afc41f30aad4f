package bound

import (
	"slices"

	"raycone/api"
)

// First of what may be wrong.
func First(l ...error) error {
	for _, err := range l {
		if err != nil {
			return err
		}
	}
	return nil
}

// Number that is too great for a bound.
func Number(n int) error {
	if Far(n) {
		return api.ErrBound
	}
	return nil
}

// Variable that is none of those from first to last.
func Variable(x, first, last int) error {
	if x < first || x > last {
		return api.ErrShape
	}
	return nil
}

// Point that is not of n numbers, or has one that is too great for a bound.
func Point(x []int, n int) error {
	switch {
	case len(x) != n:
		return api.ErrShape
	case slices.ContainsFunc(x, Far):
		return api.ErrBound
	}
	return nil
}

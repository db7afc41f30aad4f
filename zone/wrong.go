package zone

import (
	"slices"

	"raycone/api"
	"raycone/bound"
)

// pairError: what is wrong with two zones that are taken together.
func pairError(a, b Zone) error {
	err := firstOf(Valid(a), Valid(b))
	if err == nil && a.N != b.N {
		err = api.ErrShape
	}
	return err
}

// pointError: what is wrong with a point of a zone.
func pointError(z Zone, x []int) error {
	switch {
	case len(x) != z.N:
		return api.ErrShape
	case slices.ContainsFunc(x, bound.Far):
		return api.ErrBound
	}
	return nil
}

// variableError: x is none of the variables from the first that may be meant on.
func variableError(z Zone, first, x int) error {
	if x < first || x > z.N {
		return api.ErrShape
	}
	return nil
}

// numberError: c is too great.
func numberError(c int) error {
	if bound.Far(c) {
		return api.ErrBound
	}
	return nil
}

// firstOf what may be wrong.
func firstOf(l ...error) error {
	for _, err := range l {
		if err != nil {
			return err
		}
	}
	return nil
}

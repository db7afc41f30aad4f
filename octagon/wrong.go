package octagon

import (
	"slices"

	"raycone/api"
	"raycone/bound"
)

// farthest that a limit may be: so that no sum of bounds on the way is too great for an int.
const farthest = 4 * api.MaxBound

// coherent: is each cell the one that says the same of the opposites?
func coherent(o Octagon) bool {
	size := 2 * o.N
	for i := range size {
		for j := range size {
			if o.L[i*size+j] != o.L[opposite(j)*size+opposite(i)] {
				return false
			}
		}
	}
	return true
}

// pairError: what is wrong with two octagons that are taken together.
func pairError(a, b Octagon) error {
	err := bound.First(Valid(a), Valid(b))
	if err == nil && a.N != b.N {
		err = api.ErrShape
	}
	return err
}

// variableError: one that is meant is none of the octagon's variables, which are counted from 0 on.
func variableError(o Octagon, meant ...int) error {
	for _, x := range meant {
		if err := bound.Variable(x, 0, o.N-1); err != nil {
			return err
		}
	}
	return nil
}

// signError: one of them is no sign.
func signError(signs ...int) error {
	for _, sign := range signs {
		if sign < -1 || sign > 1 {
			return api.ErrShape
		}
	}
	return nil
}

// sameError: two variables that should be unlike are not.
func sameError(x, y int) error {
	if x == y {
		return api.ErrShape
	}
	return nil
}

// limitsError: what is wrong with limits: shapes are told ahead of what is too great.
func limitsError(o Octagon, l []Limit) error {
	for _, m := range l {
		if !m.fits(o) {
			return api.ErrShape
		}
	}
	if slices.ContainsFunc(l, func(m Limit) bool { return m.C < -farthest || m.C > farthest }) {
		return api.ErrBound
	}
	return nil
}

// fits an octagon: the signs are such, and the variables, unlike where there are two, are its own.
func (m Limit) fits(o Octagon) bool {
	switch {
	case signError(m.A, m.B) != nil:
	case m.A != 0 && variableError(o, m.X) != nil:
	case m.B != 0 && variableError(o, m.Y) != nil:
	case m.A != 0 && m.B != 0 && m.X == m.Y:
	default:
		return true
	}
	return false
}

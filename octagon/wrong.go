package octagon

import (
	"raycone/api"
	"raycone/bound"
)

// coherent: is each cell the one that says the same of the opposites?
func coherent(o Octagon) bool {
	size := 2 * o.N
	for i := range size {
		for j := range size {
			if o.L[i*size+j] != o.L[opposite(j)*size+opposite(i)] {
				return false
			}
		}
	}
	return true
}

// pairError: what is wrong with two octagons that are taken together.
func pairError(a, b Octagon) error {
	err := bound.First(Valid(a), Valid(b))
	if err == nil && a.N != b.N {
		err = api.ErrShape
	}
	return err
}

// variableError: one that is meant is none of the octagon's variables, which are counted from 0 on.
func variableError(o Octagon, meant ...int) error {
	for _, x := range meant {
		if err := bound.Variable(x, 0, o.N-1); err != nil {
			return err
		}
	}
	return nil
}

// signError: one of them is no sign.
func signError(signs ...int) error {
	for _, sign := range signs {
		if sign < -1 || sign > 1 {
			return api.ErrShape
		}
	}
	return nil
}

// sameError: two variables that should be unlike are not.
func sameError(x, y int) error {
	if x == y {
		return api.ErrShape
	}
	return nil
}

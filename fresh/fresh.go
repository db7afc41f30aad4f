// Package fresh: terms and conditions of programs, the same again, in new memory.
package fresh

import (
	"slices"

	"raycone/lang"
)

// Terms in new memory.
func Terms(l []lang.Expr) []lang.Expr {
	l = slices.Clone(l)
	for i := range l {
		l[i].L = Terms(l[i].L)
	}
	return l
}

// Test in new memory.
func Test(t lang.Test) lang.Test {
	t.A.L, t.B.L = Terms(t.A.L), Terms(t.B.L)
	return t
}

// Cond in new memory.
func Cond(c lang.Cond) lang.Cond {
	c = slices.Clone(c)
	for i := range c {
		c[i] = slices.Clone(c[i])
		for j, t := range c[i] {
			c[i][j] = Test(t)
		}
	}
	return c
}

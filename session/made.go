package session

import (
	"raycone/api"
	"raycone/ops"
	"raycone/poly"
)

// made by a command, of what its names have: in form.
func made(c command, of []api.Poly) (api.Poly, error) {
	switch c.verb {
	case "intervals":
		return box(c.numbers)
	case "point":
		var ends []int
		for _, n := range c.numbers {
			ends = append(ends, n, n)
		}
		return box(ends)
	case "meet":
		return ops.Meet(of[0], of[1])
	case "join":
		return ops.Join(of[0], of[1])
	case "widen":
		return ops.Widen(of[0], of[1], nil)
	}
	return ops.Forget(of[0], c.numbers[0])
}

// box by the ends of each variable, Low and High.
func box(ends []int) (api.Poly, error) {
	dim := len(ends) / 2
	if dim > api.MaxDim {
		return api.Poly{}, api.ErrBound
	}
	p := api.Poly{Dim: dim}
	for x := range dim {
		up, down := make([]int, dim), make([]int, dim)
		up[x], down[x] = 1, -1
		p.Rows = append(p.Rows, api.Row{A: up, B: ends[2*x]}, api.Row{A: down, B: -ends[2*x+1]})
	}
	return poly.Form(p)
}

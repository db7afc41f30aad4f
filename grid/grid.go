// Package grid: squares of bounds of differences, asked by closures. The bounds are exact: only what is told is cut to MaxBound.
package grid

import (
	"math"

	"raycone/api"
)

// None stands for no bound: no sum of bounds comes near to it.
const None = math.MaxInt

// Grid of bounds, row by row: the number at column j less that at row i is at most the bound in that row and column.
type Grid struct {
	size int
	most []int
}

// Of what is asked of each row and column.
func Of(size int, ask func(i, j int) int) Grid {
	g := Grid{size: size, most: make([]int, 0, size*size)}
	for i := range size {
		for j := range size {
			g.most = append(g.most, ask(i, j))
		}
	}
	return g
}

// Size: how many rows there are, and columns.
func (g Grid) Size() int { return g.size }

// At a row and a column.
func (g Grid) At(i, j int) int { return g.most[i*g.size+j] }

// With another one of its size: what a closure makes of each two bounds.
func (g Grid) With(h Grid, made func(x, y int) int) Grid {
	return Of(g.size, func(i, j int) int { return made(g.At(i, j), h.At(i, j)) })
}

// Guarded by one bound more.
func (g Grid) Guarded(i, j, most int) Grid {
	return Of(g.size, func(row, column int) int {
		if row == i && column == j {
			return min(g.At(i, j), most)
		}
		return g.At(row, column)
	})
}

// Within: is no bound above that of another one of its size?
func (g Grid) Within(h Grid) bool {
	for k, most := range g.most {
		if most > h.most[k] {
			return false
		}
	}
	return true
}

// Closed: the least bounds that allow the same numbers; false: there are no such numbers.
func (g Grid) Closed() (Grid, bool) {
	// A number less itself is 0, whether or not a bound says so.
	shortest := Of(g.size, func(i, j int) int {
		if i == j {
			return min(0, g.At(i, j))
		}
		return g.At(i, j)
	})
	for k := range g.size {
		shortest = shortest.through(k)
	}
	// Below 0 comes only of a way that leads back to where it began.
	if !shortest.Sound() {
		return Grid{}, false
	}
	return shortest, true
}

// Sound: does no bound say that a number less itself is below 0?
func (g Grid) Sound() bool {
	for k := range g.size {
		if g.At(k, k) < 0 {
			return false
		}
	}
	return true
}

// through k, where that way is shorter. A bound at most doubles in size: so there is no overflow, even where a way leads round and round.
func (g Grid) through(k int) Grid {
	return Of(g.size, func(i, j int) int { return min(g.At(i, j), Plus(g.At(i, k), g.At(k, j))) })
}

// Plus: a bound of a sum, where there is one of both parts.
func Plus(x, y int) int {
	if x == None || y == None {
		return None
	}
	return x + y
}

// Kept: a bound that another one does not go beyond.
func Kept(most, other int) int {
	if other > most {
		return None
	}
	return most
}

// Told: a bound above MaxBound is none, one below minus MaxBound is just that.
func Told(bound int) (has bool, most int) {
	if bound > api.MaxBound {
		return false, 0
	}
	return true, max(bound, -api.MaxBound)
}

// Cells of a grid, row by row, made of what is told.
func Cells[C any](g Grid, cell func(has bool, most int) C) []C {
	l := make([]C, len(g.most))
	for k, most := range g.most {
		l[k] = cell(Told(most))
	}
	return l
}

// Span of a number: told by the bounds of its opposite, and of itself.
func Span(below, above int) api.Interval {
	down, low := Told(below)
	up, high := Told(above)
	return api.Interval{Down: !down, Up: !up, Low: -low, High: high}
}

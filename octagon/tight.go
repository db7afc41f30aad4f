package octagon

import "raycone/grid"

// opposite of what an index means.
func opposite(i int) int { return i ^ 1 }

// top: the most that the number at i is, by what is said of twice that number. It is whole: so halves are rounded down.
func top(g grid.Grid, i int) int {
	twice := g.At(opposite(i), i)
	if twice == grid.None {
		return grid.None
	}
	return twice >> 1
}

// tight: the least bounds that allow the same whole numbers; false: there are none. Shortest ways lack only what comes of two tops: so they need not be sought again (BAGNARA, HILL, ZAFFANELLA).
func tight(g grid.Grid) (grid.Grid, bool) {
	closed, some := g.Closed()
	if !some {
		return grid.Grid{}, false
	}
	// The number at j less that at i is it and the opposite of the other one: where both are the same, twice their top.
	least := grid.Of(g.Size(), func(i, j int) int {
		return min(closed.At(i, j), grid.Plus(top(closed, opposite(i)), top(closed, j)))
	})
	if !least.Sound() {
		return grid.Grid{}, false
	}
	return least, true
}

package zone

import "raycone/grid"

// boundsOf a valid zone, as they stand there.
func boundsOf(z Zone) grid.Grid {
	size := z.N + 1
	return grid.Of(size, func(i, j int) int {
		if c := z.L[i*size+j]; c.Has {
			return c.Most
		}
		return grid.None
	})
}

// pointBounds: those that a point, and no other one, reaches everywhere.
func pointBounds(x []int) grid.Grid {
	at := func(i int) int {
		if i == 0 {
			return 0
		}
		return x[i-1]
	}
	return grid.Of(len(x)+1, func(i, j int) int { return at(j) - at(i) })
}

// without what closed bounds say of the variable x.
func without(g grid.Grid, x int) grid.Grid {
	return grid.Of(g.Size(), func(i, j int) int {
		if i != j && (i == x || j == x) {
			return grid.None
		}
		return g.At(i, j)
	})
}

// moved: the variable x stands where y stood, and c further. What is closed stays so.
func moved(g grid.Grid, x, y, c int) grid.Grid {
	stood := func(i int) (at, further int) {
		if i == x {
			return y, c
		}
		return i, 0
	}
	return grid.Of(g.Size(), func(i, j int) int {
		from, less := stood(i)
		to, more := stood(j)
		return grid.Plus(g.At(from, to), more-less)
	})
}

func cellOf(has bool, most int) Cell { return Cell{Has: has, Most: most} }

// tell bounds as a zone.
func tell(g grid.Grid) Zone { return Zone{N: g.Size() - 1, L: grid.Cells(g, cellOf)} }

// tellClosed: bounds as a closed zone, if it has points.
func tellClosed(g grid.Grid) (Zone, bool, error) {
	if g, some := g.Closed(); some {
		return tell(g), true, nil
	}
	return Zone{}, false, nil
}

// tellChanged: what a change makes of the closed bounds of z, if it has points.
func tellChanged(z Zone, change func(g grid.Grid) grid.Grid) (Zone, bool, error) {
	if g, some := boundsOf(z).Closed(); some {
		return tell(change(g)), true, nil
	}
	return Zone{}, false, nil
}

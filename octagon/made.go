package octagon

import (
	"raycone/grid"
	"raycone/zone"
)

// nothing is the index of no variable: it stands for 0.
const nothing = -1

// index of a variable, or of its opposite, or of nothing, as a sign says.
func index(sign, x int) int {
	switch sign {
	case 1:
		return 2 * x
	case -1:
		return 2*x + 1
	}
	return nothing
}

// boundsOf a valid octagon, as they stand there.
func boundsOf(o Octagon) grid.Grid {
	size := 2 * o.N
	return grid.Of(size, func(i, j int) int {
		if c := o.L[i*size+j]; c.Has {
			return c.Most
		}
		return grid.None
	})
}

// pointBounds: those that a point, and no other one, reaches everywhere.
func pointBounds(x []int) grid.Grid {
	at := func(i int) int {
		if i%2 == 1 {
			return -x[i/2]
		}
		return x[i/2]
	}
	return grid.Of(2*len(x), func(i, j int) int { return at(j) - at(i) })
}

// zoneBounds: what a valid zone says of its variables, but not that 0 is not below 0.
func zoneBounds(z zone.Zone) grid.Grid {
	most := func(row, column, times int) int {
		if c := z.L[row*(z.N+1)+column]; c.Has {
			return times * c.Most
		}
		return grid.None
	}
	return grid.Of(2*z.N, func(i, j int) int {
		// A zone counts its variables from 1 on.
		x, y := i/2+1, j/2+1
		switch {
		case i%2 == 0 && j%2 == 0:
			return most(x, y, 1)
		case i%2 == 1 && j%2 == 1:
			return most(y, x, 1)
		case i == opposite(j) && j%2 == 0:
			return most(0, x, 2)
		case i == opposite(j):
			return most(x, 0, 2)
		}
		return grid.None
	})
}

// without what tight bounds say of the variable x.
func without(g grid.Grid, x int) grid.Grid {
	return grid.Of(g.Size(), func(i, j int) int {
		if i != j && (i/2 == x || j/2 == x) {
			return grid.None
		}
		return g.At(i, j)
	})
}

// apart: the most that the number at j less that at i is in tight bounds.
func apart(g grid.Grid, i, j int) int {
	switch {
	case i == nothing && j == nothing:
		return 0
	case i == nothing:
		return top(g, j)
	case j == nothing:
		return top(g, opposite(i))
	}
	return g.At(i, j)
}

// moved: the variable x stands where its like, by a sign, of y stood, and c further. What is tight stays so.
func moved(g grid.Grid, x, sign, y, c int) grid.Grid {
	stood := func(i int) (at, further int) {
		switch i {
		case index(1, x):
			return index(sign, y), c
		case index(-1, x):
			return index(-sign, y), -c
		}
		return i, 0
	}
	return grid.Of(g.Size(), func(i, j int) int {
		from, less := stood(i)
		to, more := stood(j)
		return grid.Plus(apart(g, from, to), more-less)
	})
}

// guarded by a limit of one variable or two.
func guarded(g grid.Grid, m Limit) grid.Grid {
	from, to, c := index(-m.B, m.Y), index(m.A, m.X), m.C
	switch {
	// What is said of one number is said of it less its opposite, twice.
	case from == nothing:
		from, c = opposite(to), 2*c
	case to == nothing:
		to, c = opposite(from), 2*c
	}
	return g.Guarded(from, to, c).Guarded(opposite(to), opposite(from), c)
}

func cellOf(has bool, most int) Cell { return Cell{Has: has, Most: most} }

// tell bounds as an octagon.
func tell(g grid.Grid) Octagon { return Octagon{N: g.Size() / 2, L: grid.Cells(g, cellOf)} }

// tellTight: bounds as a tight octagon, if it has points.
func tellTight(g grid.Grid) (Octagon, bool, error) {
	if g, some := tight(g); some {
		return tell(g), true, nil
	}
	return Octagon{}, false, nil
}

// tellChanged: what a change makes of the tight bounds of o, if it has points.
func tellChanged(o Octagon, change func(g grid.Grid) grid.Grid) (Octagon, bool, error) {
	if g, some := tight(boundsOf(o)); some {
		return tell(change(g)), true, nil
	}
	return Octagon{}, false, nil
}

// Package whole: points of whole numbers in polygons.
package whole

import (
	"raycone/exact"
	"raycone/wide"
)

// lines that are tried, side by side. A polygon without whole points is not as broad as that (HURKENS); a broader one, made smaller towards its first corner, has one at these lines still.
const lines = 3

// Point of whole numbers in a polyhedron of two numbers that has neither rays nor lines; false: there is none.
func Point(p exact.Poly) (wide.Row, bool) {
	if p.Empty() {
		return nil, false
	}
	across, along := cornersOf(p).narrowest()
	low, high := cornersOf(p).levels(across)
	for n := range lines {
		level := low.Plus(wide.From(n))
		if level.Compare(high) > 0 {
			break
		}
		on := p.Meet(nil, []wide.Row{append(across[:2:2], level.Negated())})
		if from, to := cornersOf(on).levels(along); from.Compare(to) <= 0 {
			return crossing(across, along, level, from), true
		}
	}
	return nil, false
}

// crossing of two lines, whose rows are a base of all whole ones: so their determinant is 1 or -1.
func crossing(a, b wide.Row, levelA, levelB wide.Num) wide.Row {
	det := a[0].Times(b[1]).Minus(a[1].Times(b[0]))
	return wide.Row{
		levelA.Times(b[1]).Minus(levelB.Times(a[1])).Times(det),
		levelB.Times(a[0]).Minus(levelA.Times(b[0])).Times(det),
	}
}

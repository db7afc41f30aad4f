// Package exact: polyhedra of numbers of any size, by rows and by generators.
package exact

import (
	"math"
	"slices"

	"raycone/api"
	"raycone/bound"
	"raycone/dual"
	"raycone/wide"
)

// Poly is a polyhedron as a cone of one dimension more: of its points with Den behind X, and of its rays and lines with 0 behind. A row has minus B behind A: so its Dot with one of these is from 0 on (with Eq: 0) where it holds.
// Rows and generators are in form (P31, P33). Nobody changes them.
type Poly struct {
	Dim         int
	Up, Even    []wide.Row
	Rays, Lines []wide.Row // points are rays with something behind them
}

// Of a polyhedron by rows, which is Valid but for their number.
func Of(p api.Poly) Poly {
	up, even := Split(p.Rows)
	return ByRows(p.Dim, up, even)
}

// Split rows into those that hold one way, and those with Eq.
func Split(rows []api.Row) (up, even []wide.Row) {
	for _, r := range rows {
		if r.Eq {
			even = append(even, rowOf(r))
		} else {
			up = append(up, rowOf(r))
		}
	}
	return up, even
}

// ByRows: the polyhedron of dim numbers at each point of which the rows up are from 0 on, and the rows even are 0.
func ByRows(dim int, up, even []wide.Row) Poly {
	up = slices.Concat(up, []wide.Row{endless(dim)})
	rays, lines := dual.Generators(dim+1, up, even)
	if !slices.ContainsFunc(rays, isPoint) {
		return nothing(dim)
	}
	up, even = dual.Form(up, even, rays)
	return Poly{dim, withoutEndless(up), even, rays, lines}
}

// Makers of a polyhedron by generators, which is Valid.
func Makers(g api.Gens) (rays, lines []wide.Row) {
	for _, x := range g.Points {
		rays = append(rays, pointOf(x))
	}
	for _, r := range g.Rays {
		rays = append(rays, behind(r, 0))
	}
	for _, l := range g.Lines {
		lines = append(lines, behind(l, 0))
	}
	return rays, lines
}

// Hull of points, rays and lines: the least polyhedron of dim numbers that has them, by rows in form, if they can be told.
func Hull(dim int, rays, lines []wide.Row) (api.Poly, error) {
	if !slices.ContainsFunc(rays, isPoint) {
		return nothing(dim).Rows()
	}
	// One more than can be told may be the endless one.
	up, even := dual.FewGenerators(dim+1, rays, lines, api.MaxMany+1)
	return Poly{Dim: dim, Up: withoutEndless(up), Even: even}.Rows()
}

// Made of points, rays and lines: the least polyhedron of dim numbers that has them.
func Made(dim int, rays, lines []wide.Row) Poly {
	// One more than the most is asked for.
	p, _ := FewMade(dim, rays, lines, math.MaxInt-1)
	return p
}

// FewMade is what is Made of these, if it has at most so many rows; false: it has more.
func FewMade(dim int, rays, lines []wide.Row, most int) (Poly, bool) {
	if !slices.ContainsFunc(rays, isPoint) {
		return nothing(dim), true
	}
	// One more may be the endless one.
	up, even := dual.FewGenerators(dim+1, rays, lines, most+1)
	told := withoutEndless(slices.Clone(up))
	if len(told)+len(even) > most {
		return Poly{}, false
	}
	rays, lines = dual.Form(rays, lines, up)
	return Poly{dim, told, even, rays, lines}, true
}

// nothing at all: its one row holds nowhere.
func nothing(dim int) Poly {
	return Poly{Dim: dim, Up: []wide.Row{behind(make([]int, dim), -1)}}
}

// endless is the row by which Den is from 0 on: it bounds the cone, and holds at each point.
func endless(dim int) wide.Row { return behind(make([]int, dim), 1) }

// withoutEndless leaves out the row that bounds the cone alone: of rows in form, the one that asks nothing of a point.
func withoutEndless(up []wide.Row) []wide.Row {
	return slices.DeleteFunc(up, func(r wide.Row) bool { return r.Pivot() == len(r)-1 })
}

func behind(l []int, last int) wide.Row { return append(wide.RowOf(l), wide.From(last)) }

func rowOf(r api.Row) wide.Row { return behind(r.A, -r.B) }

func pointOf(x api.Point) wide.Row { return behind(x.X, x.Den) }

func isPoint(r wide.Row) bool { return r[len(r)-1].Sign() > 0 }

// Empty tells whether it has no points.
func (p Poly) Empty() bool { return !slices.ContainsFunc(p.Rays, isPoint) }

// Holds tells whether a row, which is Valid, holds at each point.
func (p Poly) Holds(r api.Row) bool {
	if r.Eq {
		return p.IsEven(rowOf(r))
	}
	return p.IsUp(rowOf(r))
}

// IsUp tells whether a row is from 0 on at each point.
func (p Poly) IsUp(r wide.Row) bool {
	below := func(ray wide.Row) bool { return r.Dot(ray).Sign() < 0 }
	return !slices.ContainsFunc(p.Rays, below) && !slices.ContainsFunc(p.Lines, cuts(r))
}

// IsEven tells whether a row is 0 at each point.
func (p Poly) IsEven(r wide.Row) bool {
	return !slices.ContainsFunc(p.Rays, cuts(r)) && !slices.ContainsFunc(p.Lines, cuts(r))
}

// Ways of its rows: each holds one way, so that of an even one there are two.
func (p Poly) Ways() []wide.Row {
	l := slices.Concat(p.Up, p.Even)
	for _, r := range p.Even {
		l = append(l, r.Each(wide.Num.Negated))
	}
	return l
}

// Within tells whether each point is one of q.
func (p Poly) Within(q Poly) bool {
	fails := func(r wide.Row) bool { return !p.IsUp(r) }
	return !slices.ContainsFunc(q.Ways(), fails)
}

// Meet with more rows: that of it where these hold, too.
func (p Poly) Meet(up, even []wide.Row) Poly {
	return ByRows(p.Dim, slices.Concat(p.Up, up), slices.Concat(p.Even, even))
}

// cuts is asked whether the row is other than 0 on a ray.
func cuts(r wide.Row) func(ray wide.Row) bool {
	return func(ray wide.Row) bool { return r.Dot(ray).Sign() != 0 }
}

// HoldsAt tells whether a row holds at a point, both of them Valid.
func HoldsAt(r api.Row, x api.Point) bool {
	side := rowOf(r).Dot(pointOf(x)).Sign()
	return side == 0 || side > 0 && !r.Eq
}

// Rows in form (P31), if they can be told, and are not too many.
func (p Poly) Rows() (api.Poly, error) {
	if bound.Count(p.Up, p.Even) > api.MaxMany {
		return api.Poly{}, api.ErrBound
	}
	return p.AllRows()
}

// Tell each of a list in form, if all can be told.
func Tell(l []Poly) ([]api.Poly, error) {
	t := make([]api.Poly, len(l))
	for i, p := range l {
		var err error
		if t[i], err = p.Rows(); err != nil {
			return nil, err
		}
	}
	return t, nil
}

// AllRows in form, however many, if they can be told.
func (p Poly) AllRows() (api.Poly, error) {
	all := api.Poly{Dim: p.Dim}
	for kind, l := range [][]wide.Row{p.Even, p.Up} {
		told, err := bound.TellAll(l)
		if err != nil {
			return api.Poly{}, err
		}
		for _, r := range told {
			all.Rows = append(all.Rows, api.Row{Eq: kind == 0, A: ahead(r), B: -r[p.Dim]})
		}
	}
	return all, nil
}

// Gens in form (P33), if they can be told.
func (p Poly) Gens() (api.Gens, error) {
	told, err := bound.TellKinds(p.Rays, p.Lines)
	if err != nil {
		return api.Gens{}, err
	}
	gens := api.Gens{Dim: p.Dim}
	for _, r := range told[0] {
		if den := r[p.Dim]; den > 0 {
			gens.Points = append(gens.Points, api.Point{X: ahead(r), Den: den})
		} else {
			gens.Rays = append(gens.Rays, ahead(r))
		}
	}
	for _, l := range told[1] {
		gens.Lines = append(gens.Lines, ahead(l))
	}
	return gens, nil
}

// ahead of the last number: the caller of an answer sees nothing behind it.
func ahead(r []int) []int { return r[: len(r)-1 : len(r)-1] }

// Package exact: polyhedra of numbers of any size, by rows and by generators.
package exact

import (
	"slices"

	"raycone/api"
	"raycone/bound"
	"raycone/dual"
	"raycone/wide"
)

// Poly is a polyhedron as a cone of one dimension more: of its points with Den behind X, and of its rays and lines with 0 behind. A row has minus B behind A: so its Dot with one of these is from 0 on (with Eq: 0) where it holds.
// Rows and generators are in form (P31, P33). No method changes them.
type Poly struct {
	dim         int
	up, even    []wide.Row
	rays, lines []wide.Row // points are rays with something behind them
}

// Of a polyhedron by rows, which is Valid.
func Of(p api.Poly) Poly {
	up, even := []wide.Row{endless(p.Dim)}, []wide.Row(nil)
	for _, r := range p.Rows {
		if r.Eq {
			even = append(even, rowOf(r))
		} else {
			up = append(up, rowOf(r))
		}
	}
	rays, lines := dual.Generators(p.Dim+1, up, even)
	if !slices.ContainsFunc(rays, isPoint) {
		return nothing(p.Dim)
	}
	up, even = dual.Form(up, even, rays)
	return Poly{p.Dim, withoutEndless(up), even, rays, lines}
}

// OfGens: of a polyhedron by generators, which is Valid.
func OfGens(g api.Gens) Poly {
	if len(g.Points) == 0 {
		return nothing(g.Dim)
	}
	var rays, lines []wide.Row
	for _, x := range g.Points {
		rays = append(rays, pointOf(x))
	}
	for _, r := range g.Rays {
		rays = append(rays, behind(r, 0))
	}
	for _, l := range g.Lines {
		lines = append(lines, behind(l, 0))
	}
	up, even := dual.Generators(g.Dim+1, rays, lines)
	rays, lines = dual.Form(rays, lines, up)
	return Poly{g.Dim, withoutEndless(up), even, rays, lines}
}

// nothing at all: its one row holds nowhere.
func nothing(dim int) Poly {
	return Poly{dim: dim, up: []wide.Row{behind(make([]int, dim), -1)}}
}

// endless is the row by which Den is from 0 on: it bounds the cone, and holds at each point.
func endless(dim int) wide.Row { return behind(make([]int, dim), 1) }

// withoutEndless leaves out the row that bounds the cone alone: of rows in form, the one that asks nothing of a point.
func withoutEndless(up []wide.Row) []wide.Row {
	return slices.DeleteFunc(up, func(r wide.Row) bool { return r.Pivot() == len(r)-1 })
}

func behind(l []int, last int) wide.Row { return append(wide.RowOf(l), wide.From(last)) }

func rowOf(r api.Row) wide.Row { return behind(r.A, -r.B) }

func pointOf(x api.Point) wide.Row { return behind(x.X, x.Den) }

func isPoint(r wide.Row) bool { return r[len(r)-1].Sign() > 0 }

// Empty tells whether it has no points.
func (p Poly) Empty() bool { return !slices.ContainsFunc(p.rays, isPoint) }

// Holds tells whether a row, which is Valid, holds at each point.
func (p Poly) Holds(r api.Row) bool {
	holds := held(r)
	fails := func(ray wide.Row) bool { return !holds(ray) }
	failsOnce := func(line wide.Row) bool { return fails(line) || fails(line.Each(wide.Num.Negated)) }
	return !slices.ContainsFunc(p.rays, fails) && !slices.ContainsFunc(p.lines, failsOnce)
}

// HoldsAt tells whether a row holds at a point, both of them Valid.
func HoldsAt(r api.Row, x api.Point) bool { return held(r)(pointOf(x)) }

// held is asked whether the row holds at a point, or along a ray.
func held(r api.Row) func(ray wide.Row) bool {
	row := rowOf(r)
	return func(ray wide.Row) bool {
		side := row.Dot(ray).Sign()
		return side == 0 || side > 0 && !r.Eq
	}
}

// Rows in form (P31), if they can be told.
func (p Poly) Rows() (api.Poly, error) {
	told, err := bound.TellKinds(p.even, p.up)
	if err != nil {
		return api.Poly{}, err
	}
	rows := api.Poly{Dim: p.dim}
	for kind, l := range told {
		for _, r := range l {
			rows.Rows = append(rows.Rows, api.Row{Eq: kind == 0, A: p.ahead(r), B: -r[p.dim]})
		}
	}
	return rows, nil
}

// Gens in form (P33), if they can be told.
func (p Poly) Gens() (api.Gens, error) {
	told, err := bound.TellKinds(p.rays, p.lines)
	if err != nil {
		return api.Gens{}, err
	}
	gens := api.Gens{Dim: p.dim}
	for _, r := range told[0] {
		if den := r[p.dim]; den > 0 {
			gens.Points = append(gens.Points, api.Point{X: p.ahead(r), Den: den})
		} else {
			gens.Rays = append(gens.Rays, p.ahead(r))
		}
	}
	for _, l := range told[1] {
		gens.Lines = append(gens.Lines, p.ahead(l))
	}
	return gens, nil
}

// ahead of the last number: the caller of an answer sees nothing behind it.
func (p Poly) ahead(r []int) []int { return r[:p.dim:p.dim] }

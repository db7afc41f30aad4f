// Package joins: of two polyhedra one that has both, and can be handed in.
package joins

import (
	"slices"

	"raycone/api"
	"raycone/dual"
	"raycone/exact"
	"raycone/wide"
)

// Joiner of polyhedra.
type Joiner struct {
	Most  int        // numbers of rows that are told, in size
	Stops []wide.Row // for widening: each of them holds one way
}

// few rays, of which a hull is made soon.
const few = 64

// paired: what is made of two. Where one is nothing, the other one is all there is; where all numbers are too great, no row holds for both.
func (j Joiner) paired(a, b exact.Poly, do func() exact.Poly) exact.Poly {
	switch {
	case a.Empty():
		return b
	case b.Empty():
		return a
	case j.Most == 0:
		return exact.ByRows(a.Dim, nil, nil)
	}
	return do()
}

// Join of two: the least one, if it can soon be told.
func (j Joiner) Join(a, b exact.Poly) exact.Poly {
	return j.paired(a, b, func() exact.Poly {
		switch {
		case a.Within(b):
			return j.Small(b)
		case b.Within(a):
			return j.Small(a)
		case len(a.Rays)+len(b.Rays) <= few:
			if p, ok := exact.FewMade(a.Dim, slices.Concat(a.Rays, b.Rays), slices.Concat(a.Lines, b.Lines), api.MaxRows); ok {
				return j.Small(p)
			}
		}
		return j.around(a, b)
	})
}

// around two: rows of either, and stops, moved so that they hold for both, and whatever is even of both.
func (j Joiner) around(a, b exact.Poly) exact.Poly {
	far := func(l []wide.Row) []wide.Row {
		return moved(l, slices.Concat(a.Rays, b.Rays), slices.Concat(a.Lines, b.Lines))
	}
	return j.byRows(a.Dim, even(a, b), far(a.Ways()), far(b.Ways()), far(j.Stops))
}

// Widen a by b: rows of a, and stops, that hold for both, and whatever is even of both.
func (j Joiner) Widen(a, b exact.Poly) exact.Poly {
	return j.paired(a, b, func() exact.Poly {
		fails := func(r wide.Row) bool { return !a.IsUp(r) || !b.IsUp(r) }
		holding := func(l []wide.Row) []wide.Row { return slices.DeleteFunc(slices.Clone(l), fails) }
		return j.byRows(a.Dim, even(a, b), holding(a.Ways()), holding(j.Stops))
	})
}

// even rows of both.
func even(a, b exact.Poly) []wide.Row {
	_, even := dual.Generators(a.Dim+1, nil, slices.Concat(a.Rays, a.Lines, b.Rays, b.Lines))
	return even
}

// byRows: even ones, and of each list those that tell more than is told by then.
func (j Joiner) byRows(dim int, even []wide.Row, lists ...[]wide.Row) exact.Poly {
	_, even = j.kept(nil, even)
	p := exact.ByRows(dim, nil, even)
	for _, l := range lists {
		more := slices.DeleteFunc(l, p.IsUp)
		up, even := j.kept(slices.Concat(p.Up, more), p.Even)
		p = exact.ByRows(dim, up, even)
	}
	return j.Small(p)
}

// kept rows: those of no too great numbers, and no more than can be handed in.
func (j Joiner) kept(up, even []wide.Row) (keptUp, keptEven []wide.Row) {
	great := func(r wide.Row) bool { return r.Any(func(n wide.Num) bool { return n.Above(j.Most) }) }
	up, even = slices.DeleteFunc(slices.Clone(up), great), slices.DeleteFunc(slices.Clone(even), great)
	return up[:min(len(up), api.MaxRows-len(even))], even
}

// IsSmall tells whether it can be handed in.
func (j Joiner) IsSmall(p exact.Poly) bool {
	up, even := j.kept(p.Up, p.Even)
	return len(up) == len(p.Up) && len(even) == len(p.Even)
}

// Small enough to be handed in, with what rows are kept of it.
func (j Joiner) Small(p exact.Poly) exact.Poly {
	if j.IsSmall(p) {
		return p
	}
	up, even := j.kept(p.Up, p.Even)
	return exact.ByRows(p.Dim, up, even)
}

// moved rows: each as near as it can be so that it holds on all rays and lines, if it can.
func moved(l, rays, lines []wide.Row) []wide.Row {
	var out []wide.Row
	for _, r := range l {
		if far, ok := movedRow(r, rays, lines); ok {
			out = append(out, far)
		}
	}
	return out
}

func movedRow(r wide.Row, rays, lines []wide.Row) (wide.Row, bool) {
	if slices.ContainsFunc(lines, func(l wide.Row) bool { return r.Dot(l).Sign() != 0 }) {
		return nil, false
	}
	last := len(r) - 1
	// The point at which it is the least is told by that and by what lies behind the point.
	var least, den wide.Num
	for _, g := range rays {
		switch value := r.Dot(g); {
		case g[last].Sign() == 0 && value.Sign() < 0:
			return nil, false
		case g[last].Sign() == 0:
		case den.Sign() == 0 || value.Times(den).Compare(least.Times(g[last])) < 0:
			least, den = value, g[last]
		}
	}
	end := make(wide.Row, len(r))
	end[last] = wide.From(1)
	return r.Sum(den, end, least.Negated()).Normal(), true
}

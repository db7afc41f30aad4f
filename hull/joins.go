package hull

import (
	"slices"

	"raycone/api"
	"raycone/dual"
	"raycone/exact"
	"raycone/wide"
)

// few rays, of which a hull is made soon.
const few = 64

// paired: what is made of two. Where one is nothing, the other one is all there is; where all numbers are too great, no row holds for both.
func (s scanner) paired(a, b state, do func() state) state {
	switch {
	case a.Empty():
		return b
	case b.Empty():
		return a
	case s.most == 0:
		return s.everything()
	}
	return do()
}

// join of two: the least one, if it can soon be told.
func (s scanner) join(a, b state) state {
	return s.paired(a, b, func() state {
		switch {
		case within(a, b):
			return s.small(b.Poly)
		case within(b, a):
			return s.small(a.Poly)
		case len(a.Rays)+len(b.Rays) <= few:
			if p, ok := exact.FewMade(s.dim(), slices.Concat(a.Rays, b.Rays), slices.Concat(a.Lines, b.Lines), api.MaxRows); ok {
				return s.small(p)
			}
		}
		return s.around(a, b)
	})
}

// around two: rows of either, and stops, moved so that they hold for both, and whatever is even of both.
func (s scanner) around(a, b state) state {
	far := func(l []wide.Row) []wide.Row {
		return moved(l, slices.Concat(a.Rays, b.Rays), slices.Concat(a.Lines, b.Lines))
	}
	return s.byRows(s.even(a, b), far(ways(a.Poly)), far(ways(b.Poly)), far(s.stops))
}

// widen a by b: rows of a, and stops, that hold for both, and whatever is even of both.
func (s scanner) widen(a, b state) state {
	return s.paired(a, b, func() state {
		fails := func(r wide.Row) bool { return !a.IsUp(r) || !b.IsUp(r) }
		holding := func(l []wide.Row) []wide.Row { return slices.DeleteFunc(slices.Clone(l), fails) }
		return s.byRows(s.even(a, b), holding(ways(a.Poly)), holding(s.stops))
	})
}

// even rows of both.
func (s scanner) even(a, b state) []wide.Row {
	_, even := dual.Generators(s.dim()+1, nil, slices.Concat(a.Rays, a.Lines, b.Rays, b.Lines))
	return even
}

// byRows: even ones, and of each list those that tell more than is told by then.
func (s scanner) byRows(even []wide.Row, lists ...[]wide.Row) state {
	_, even = s.kept(nil, even)
	p := exact.ByRows(s.dim(), nil, even)
	for _, l := range lists {
		more := slices.DeleteFunc(l, p.IsUp)
		up, even := s.kept(slices.Concat(p.Up, more), p.Even)
		p = exact.ByRows(s.dim(), up, even)
	}
	return s.small(p)
}

// kept rows: those of no too great numbers, and no more than can be handed in.
func (s scanner) kept(up, even []wide.Row) (keptUp, keptEven []wide.Row) {
	great := func(r wide.Row) bool { return r.Any(func(n wide.Num) bool { return n.Above(s.most) }) }
	up, even = slices.DeleteFunc(slices.Clone(up), great), slices.DeleteFunc(slices.Clone(even), great)
	return up[:min(len(up), api.MaxRows-len(even))], even
}

// small enough to be handed in, with what rows are kept of it.
func (s scanner) small(p exact.Poly) state {
	up, even := s.kept(p.Up, p.Even)
	if len(up) == len(p.Up) && len(even) == len(p.Even) {
		return state{Poly: p}
	}
	return state{Poly: exact.ByRows(s.dim(), up, even)}
}

// moved rows: each as near as it can be so that it holds on all rays and lines, if it can.
func moved(l, rays, lines []wide.Row) []wide.Row {
	var out []wide.Row
	for _, r := range l {
		if far, ok := movedRow(r, rays, lines); ok {
			out = append(out, far)
		}
	}
	return out
}

func movedRow(r wide.Row, rays, lines []wide.Row) (wide.Row, bool) {
	if slices.ContainsFunc(lines, func(l wide.Row) bool { return r.Dot(l).Sign() != 0 }) {
		return nil, false
	}
	last := len(r) - 1
	// The point at which it is the least is told by that and by what lies behind the point.
	var least, den wide.Num
	for _, g := range rays {
		switch value := r.Dot(g); {
		case g[last].Sign() == 0 && value.Sign() < 0:
			return nil, false
		case g[last].Sign() == 0:
		case den.Sign() == 0 || value.Times(den).Compare(least.Times(g[last])) < 0:
			least, den = value, g[last]
		}
	}
	end := make(wide.Row, len(r))
	end[last] = wide.From(1)
	return r.Sum(den, end, least.Negated()).Normal(), true
}

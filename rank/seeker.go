package rank

import (
	"raycone/api"
	"raycone/exact"
	"raycone/whole"
	"raycone/wide"
)

// seeker of a rank, by what makes the rounds: each of these asks something of F. F has two numbers; of a loop of one variable the second one may be anything.
type seeker struct {
	dim    int
	rounds exact.Poly
}

func seekerOf(l Loop) seeker { return seeker{l.Dim, exact.Of(l.poly())} }

// den of a ray: 0, where it is no point.
func (s seeker) den(g wide.Row) wide.Num { return g[2*s.dim] }

// ahead: what a ray or line has ahead of the round, with one number more.
func (s seeker) ahead(g wide.Row, last wide.Num) wide.Row {
	row := make(wide.Row, mostDim+1)
	copy(row, g[:s.dim])
	row[mostDim] = last
	return row
}

// step: how much more that is than what it has behind the round, with one number more.
func (s seeker) step(g wide.Row, last wide.Num) wide.Row {
	return s.ahead(g[:s.dim].Sum(wide.From(1), g[s.dim:2*s.dim], wide.From(-1)), last)
}

// falling: all F of which the sum falls by 1 at least, and not without end.
func (s seeker) falling() exact.Poly {
	var up, even []wide.Row
	for _, g := range s.rounds.Rays {
		up = append(up, s.step(g, s.den(g).Negated()))
		if s.den(g).Sign() == 0 {
			up = append(up, s.ahead(g, wide.Num{}))
		}
	}
	for _, g := range s.rounds.Lines {
		even = append(even, s.step(g, wide.Num{}), s.ahead(g, wide.Num{}))
	}
	return exact.ByRows(mostDim, up, even)
}

// deep: what is asked of F so that its sum is nowhere lower than can be told.
func (s seeker) deep() []wide.Row {
	var up []wide.Row
	for _, g := range s.rounds.Rays {
		up = append(up, s.ahead(g, s.den(g).Times(wide.From(api.MaxEntry))))
	}
	return up
}

// within so much in size both numbers of F are.
func within(most int) []wide.Row {
	return wide.RowsOf([][]int{{1, 0, most}, {-1, 0, most}, {0, 1, most}, {0, -1, most}})
}

// isAny tells whether there is any rank, however great its numbers.
func (s seeker) isAny() bool { return !s.falling().Empty() }

// rank of small numbers, without proofs; false: there is none whose numbers can be told.
func (s seeker) rank() (Rank, bool) {
	if s.rounds.Empty() {
		return Rank{F: make([]int, s.dim), Fall: 1}, true
	}
	all := s.falling().Meet(s.deep(), nil)
	for most := 1; most <= api.MaxEntry; most *= 2 {
		if f, ok := whole.Point(all.Meet(within(most), nil)); ok {
			return s.rankOf(f), true
		}
	}
	return Rank{}, false
}

func (s seeker) rankOf(f wide.Row) Rank {
	told, _ := f.Ints()
	return Rank{F: told[:s.dim:s.dim], Low: s.least(f, s.ahead), Fall: s.least(f, s.step)}
}

// least that F has of all points, or what is at most told, if that is less.
func (s seeker) least(f wide.Row, of func(g wide.Row, last wide.Num) wide.Row) int {
	least := wide.From(api.MaxEntry)
	for _, g := range s.rounds.Rays {
		if den := s.den(g); den.Sign() > 0 {
			if value := f.Dot(of(g, wide.Num{})).Floor(den); value.Compare(least) < 0 {
				least = value
			}
		}
	}
	n, _ := least.Int()
	return n
}

package octagon

import (
	"math"
	"math/rand"
	"slices"
	"testing"

	"raycone/api"
)

// Limits, any many at once, also of just one variable: what was worked out by hand.
func TestGuards(t *testing.T) {
	o := of(2, is(2, 0, 0, 3)...)
	for _, c := range []struct {
		o    Octagon
		l    []Limit
		want Octagon
	}{
		{of(0), nil, of(0)},
		{of(0), []Limit{{C: 0}, {C: most, X: 7, Y: -1}}, of(0)},
		{of(1), nil, closed(1)},
		{of(1, []int{2, 5}), nil, closed(1, []int{2, 4})},
		{of(1), []Limit{{A: 1, C: 3}}, closed(1, []int{2, 6})},
		{of(1), []Limit{{B: 1, C: 3}}, closed(1, []int{2, 6})},
		{of(1), []Limit{{A: 1, Y: 99, C: 3}, {B: -1, X: math.MinInt, C: -3}}, closed(1, is(1, 0, 3, 3)...)},
		{of(2), []Limit{{1, 0, 1, 1, 3}, {1, 0, -1, 1, 2}}, closed(2, []int{1, 1, 3}, []int{1, -1, 2}, []int{2, 0, 4})},
		{of(2), []Limit{{1, 0, 1, 1, 3}, {1, 1, 1, 0, 2}, {1, 0, 1, 1, 4}}, closed(2, []int{1, 1, 2})},
		{o, []Limit{{A: 1, X: 0, C: 2}, {A: -1, X: 0, C: -2}}, closed(2, is(2, 0, 2, 2)...)},
		// What is too great to be told counts in full, together with what is said at once.
		{of(2), []Limit{{A: 1, C: most + 1}}, closed(2)},
		{of(2), []Limit{{A: 1, C: 4 * most}, {B: 1, Y: 1, A: -1, C: -4 * most}}, closed(2, []int{-1, 1, -most}, []int{0, 2, 0})},
		{of(2), []Limit{{A: 1, C: -4 * most}, {A: -1, B: 1, Y: 1, C: 4 * most}}, closed(2, []int{2, 0, -most}, []int{0, 2, 0}, []int{1, 1, -most})},
		{of(2), []Limit{{A: -1, C: -most - 1}, {A: 1, X: 1, C: 1}}, closed(2, []int{-2, 0, -most}, []int{0, 2, 2}, []int{-1, 1, -most})},
	} {
		if o, ok, err := Guards(c.o, c.l...); !same(o, c.want) || !ok || err != nil {
			t.Error(c, o, ok, err)
		}
	}
	for _, c := range []struct {
		o Octagon
		l []Limit
	}{
		{of(0), []Limit{{C: -1}}},
		{of(1), []Limit{{A: 1, C: 3}, {C: -1}}},
		{of(1), []Limit{{A: 1, C: 3}, {A: -1, C: -4}}},
		{of(2), []Limit{{1, 0, 1, 1, 0}, {-1, 0, -1, 1, -1}}},
		{of(2), []Limit{{A: 1, C: 4*most - 1}, {B: -1, C: -4 * most}}},
		{none(2), nil},
		{none(1), []Limit{{}}},
	} {
		if o, ok, err := Guards(c.o, c.l...); ok || err != nil || !isZero(o) {
			t.Error(c, o, ok, err)
		}
	}
}

// What is wrong with limits, wherever they stand: shapes first.
func TestGuardsErrors(t *testing.T) {
	good, far, worst := Limit{1, 0, -1, 1, 3}, Limit{A: 1, C: 4*most + 1}, Limit{A: 3}
	for _, c := range []struct {
		o    Octagon
		l    []Limit
		want error
	}{
		{of(2), []Limit{good, good}, nil},
		{of(2), []Limit{{A: 2}}, api.ErrShape}, {of(2), []Limit{{B: -2}}, api.ErrShape}, {of(2), []Limit{good, {A: math.MinInt}}, api.ErrShape},
		{of(2), []Limit{{A: 1, X: 2}}, api.ErrShape}, {of(2), []Limit{{B: 1, Y: -1}}, api.ErrShape}, {of(0), []Limit{{A: 1}}, api.ErrShape}, {of(2), []Limit{good, {A: 1, X: 1, B: 1, Y: 1}}, api.ErrShape}, {of(2), []Limit{{A: 1, X: math.MaxInt, B: 1}}, api.ErrShape},
		{of(2), []Limit{far}, api.ErrBound}, {of(2), []Limit{good, {C: math.MinInt}}, api.ErrBound}, {of(2), []Limit{{A: -1, C: -4*most - 1}}, api.ErrBound}, {none(2), []Limit{{A: 1, C: math.MaxInt}}, api.ErrBound},
		{of(2), []Limit{far, worst}, api.ErrShape}, {of(5), []Limit{worst}, api.ErrBound}, {Octagon{N: 1}, []Limit{far}, api.ErrShape}, {Octagon{1, []Cell{{true, 1}, {}, {}, {}}}, []Limit{worst}, api.ErrOrder},
	} {
		o, ok, err := Guards(c.o, c.l...)
		if err != c.want || ok != (err == nil) || err != nil && !isZero(o) {
			t.Error(c, o, ok, err)
		}
	}
}

// limitsBy chance.
func limitsBy(r *rand.Rand, n int, size func() int) []Limit {
	var l []Limit
	for range r.Intn(4) {
		m := Limit{r.Intn(3) - 1, r.Intn(n), r.Intn(3) - 1, r.Intn(n), size()}
		if m.X == m.Y {
			m.B = 0
		}
		l = append(l, m)
	}
	return l
}

// Limits are looked at point by point.
func TestGuardsAlways(t *testing.T) {
	r := rand.New(rand.NewSource(930))
	for _, s := range []*space{spaceOf(1, 40, 14), spaceOf(2, 36, 12)} {
		for range 3000 {
			o := s.small(r, 3)
			l := limitsBy(r, s.n, func() int { return r.Intn(7) - 3 })
			points := slices.DeleteFunc(s.of(o), func(v []int) bool {
				return slices.ContainsFunc(l, func(m Limit) bool { return m.A*s.at(v, m.X)+m.B*s.at(v, m.Y) > m.C })
			})
			got, ok, err := Guards(o, l...)
			s.check(t, "Guards", []any{o, l}, got, ok, err, points)
		}
	}
}

// Great limits: no bound is lost between them.
func TestGuardsGreat(t *testing.T) {
	r := rand.New(rand.NewSource(931))
	for range 3000 {
		o := great(r, 1+r.Intn(4))
		l := limitsBy(r, o.N, func() int { return (1 + 3*r.Intn(2)) * sized(r) })
		f := factsOf(o)
		for _, m := range l {
			var sum term
			sum[m.X] += m.A
			sum[m.Y] += m.B
			f.say(sum, m.C)
		}
		want, is := f.wanted(t, first(o.N))
		got, ok, err := Guards(o, l...)
		checkGreat(t, "Guards", []any{o, l}, got, ok, err, want, is)
	}
}

// Octagons and limits are only read, and not behind their length.
func TestGuardsMemory(t *testing.T) {
	l := []Limit{{1, 0, 1, 1, 2}, {1, 0, -1, 1, 2}, {A: 9}}
	o := of(2, []int{1, 1, 3})
	kept := slices.Clone(o.L)
	got, ok, err := Guards(o, l[:2]...)
	fill(got.L[:cap(got.L)])
	if !ok || err != nil || !slices.Equal(o.L, kept) || !slices.Equal(l, []Limit{{1, 0, 1, 1, 2}, {1, 0, -1, 1, 2}, {A: 9}}) {
		t.Error(o, l, ok, err)
	}
}

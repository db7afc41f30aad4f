package octagon

import (
	"math"
	"slices"
	"testing"

	"raycone/api"
	"raycone/zone"
)

const (
	most = api.MaxBound
	over = api.MaxBound + 1
)

// sum that a cell of n variables bounds: how often each variable is in it.
func sum(n, i, j int) []int {
	l := make([]int, n)
	add := func(k, times int) {
		if k%2 == 1 {
			times = -times
		}
		l[k/2] += times
	}
	add(j, 1)
	add(i, -1)
	return l
}

// of n variables, with bounds: how often each variable is in a sum, and its most. All cells that say so are set.
func of(n int, l ...[]int) Octagon {
	o := Octagon{N: n, L: make([]Cell, 4*n*n)}
	for k := range o.L {
		for _, b := range l {
			if slices.Equal(sum(n, k/(2*n), k%(2*n)), b[:n]) {
				o.L[k] = Cell{Has: true, Most: b[n]}
			}
		}
	}
	return o
}

// closed: as of, and each variable less itself is at most 0.
func closed(n int, l ...[]int) Octagon { return of(n, append(l, make([]int, n+1))...) }

// once: the sum that is one variable of n, that many times; and a bound.
func once(n, x, times, bound int) []int {
	l := make([]int, n+1)
	l[x], l[n] = times, bound
	return l
}

// is: variable x of n is from low to high.
func is(n, x, low, high int) [][]int { return [][]int{once(n, x, 2, 2*high), once(n, x, -2, -2*low)} }

// none: n variables (1 at least), and no point.
func none(n int) Octagon { return of(n, is(n, 0, 1, 0)...) }

func same(a, b Octagon) bool { return a.N == b.N && slices.Equal(a.L, b.L) }

func isZero(o Octagon) bool { return o.N == 0 && len(o.L) == 0 }

// P90: where the cells stand: rows and columns, written out.
func TestCells(t *testing.T) {
	m := func(n int) Cell { return Cell{true, n} }
	for _, c := range []struct{ got, want Octagon }{
		{of(1, []int{2, 5}), Octagon{1, []Cell{{}, {}, m(5), {}}}}, {of(1, []int{-2, 5}), Octagon{1, []Cell{{}, m(5), {}, {}}}},
		{of(2, []int{1, 1, 3}, []int{1, -1, 2}), Octagon{2, []Cell{{}, {}, {}, {}, {}, {}, m(3), m(2), m(2), {}, {}, {}, m(3), {}, {}, {}}}},
		{closed(1), Octagon{1, []Cell{m(0), {}, {}, m(0)}}},
	} {
		if !same(c.got, c.want) || Valid(c.want) != nil {
			t.Error(c, Valid(c.want))
		}
	}
	// x + y at most 3: 2 1 is one of its points, 2 2 is none.
	for _, o := range []Octagon{of(2, []int{1, 1, 3}), {2, []Cell{6: m(3), 12: m(3), 15: {}}}} {
		in, err := Has(o, []int{2, 1})
		out, wrong := Has(o, []int{2, 2})
		if !in || out || err != nil || wrong != nil {
			t.Error(o, in, out, err, wrong)
		}
	}
}

// P90: the form, and which error comes first.
func TestValid(t *testing.T) {
	cells := func(n int, l ...Cell) Octagon { return Octagon{N: n, L: l} }
	zero, five, far, loose := Cell{}, Cell{true, 5}, Cell{true, over}, Cell{false, 1}
	lone := of(4)
	lone.L[1*8+6] = five
	for _, c := range []struct {
		o    Octagon
		want error
	}{
		{Octagon{}, nil}, {cells(0), nil}, {of(1), nil}, {of(4), nil}, {closed(4), nil}, {of(1, []int{2, most}, []int{-2, -most}), nil}, {none(2), nil}, {of(2, []int{0, 0, -1}), nil}, {cells(1, zero, five, far, zero), api.ErrBound}, {cells(1, zero, five, zero, zero), nil},
		{Octagon{N: -1}, api.ErrBound}, {of(5), api.ErrBound}, {Octagon{N: math.MaxInt}, api.ErrBound}, {Octagon{N: math.MinInt}, api.ErrBound}, {cells(-1, zero, zero, zero, zero), api.ErrBound}, {cells(1<<31, zero), api.ErrBound}, {Octagon{N: 1 << 62}, api.ErrBound},
		{Octagon{N: 1}, api.ErrShape}, {Octagon{N: 4}, api.ErrShape}, {cells(0, zero), api.ErrShape}, {cells(1, zero, zero, zero), api.ErrShape}, {cells(1, zero, zero, zero, zero, zero), api.ErrShape}, {Octagon{N: 4, L: make([]Cell, 16)}, api.ErrShape}, {Octagon{N: 2, L: make([]Cell, 9)}, api.ErrShape},
		{cells(1, zero, loose, zero, zero), api.ErrShape}, {cells(1, loose, zero, zero, loose), api.ErrShape}, {cells(1, zero, zero, Cell{false, math.MinInt}, zero), api.ErrShape},
		{cells(1, zero, far, zero, zero), api.ErrBound}, {cells(1, zero, zero, Cell{true, -over}, zero), api.ErrBound}, {cells(1, zero, Cell{true, math.MinInt}, zero, zero), api.ErrBound}, {cells(1, far, zero, zero, far), api.ErrBound},
		{cells(1, five, zero, zero, zero), api.ErrOrder}, {cells(1, zero, zero, zero, five), api.ErrOrder}, {cells(1, five, zero, zero, Cell{true, 4}), api.ErrOrder}, {cells(1, Cell{true, 0}, zero, zero, zero), api.ErrOrder}, {lone, api.ErrOrder}, {cells(1, five, zero, zero, five), nil},
		// More than one thing is wrong: what is named first is told.
		{cells(5, loose), api.ErrBound}, {cells(1, far, zero), api.ErrShape}, {cells(1, far, loose, zero, zero), api.ErrShape}, {cells(1, loose, zero, zero, zero), api.ErrShape}, {cells(1, far, zero, zero, zero), api.ErrBound}, {cells(1, five, far, zero, zero), api.ErrBound}, {cells(1, five, zero, loose, zero), api.ErrShape},
	} {
		if err := Valid(c.o); err != c.want {
			t.Error(c.o, err, "want", c.want)
		}
	}
}

// P90: points, also of octagons that are not tight, and of such as have none.
func TestHas(t *testing.T) {
	one := of(1, is(1, 0, 2, 4)...)
	far := of(2, []int{1, 1, most}, []int{1, -1, most})
	for _, c := range []struct {
		o    Octagon
		x    []int
		want bool
	}{
		{of(0), nil, true}, {of(0), []int{}, true}, {of(1), []int{5}, true}, {of(1), []int{-most}, true}, {of(1), []int{most}, true},
		{one, []int{1}, false}, {one, []int{2}, true}, {one, []int{4}, true}, {one, []int{5}, false}, {of(1, []int{2, 5}), []int{2}, true}, {of(1, []int{2, 5}), []int{3}, false},
		{of(2, []int{1, 1, 3}), []int{1, 2}, true}, {of(2, []int{1, 1, 3}), []int{4, -1}, true}, {of(2, []int{1, 1, 3}), []int{2, 2}, false}, {of(2, []int{-1, -1, -3}), []int{2, 1}, true}, {of(2, []int{-1, -1, -3}), []int{1, 1}, false},
		{of(2, []int{1, -1, 2}), []int{3, 1}, true}, {of(2, []int{1, -1, 2}), []int{4, 1}, false}, {of(2, []int{-1, 1, 2}), []int{1, 4}, false}, {of(2, []int{-1, 1, 2}), []int{4, 1}, true},
		{of(2, []int{0, 0, -1}), []int{0, 0}, false}, {of(2, []int{0, 0, 7}), []int{0, 0}, true}, {none(2), []int{0, 0}, false}, {none(2), []int{1, 0}, false},
		{far, []int{most, 0}, true}, {far, []int{most, 1}, false}, {far, []int{most, -1}, false}, {far, []int{most, most}, false}, {of(2), []int{-most, most}, true},
		{of(1, []int{2, most}), []int{most / 2}, true}, {of(1, []int{2, most}), []int{most/2 + 1}, false}, {of(1, []int{2, most}), []int{most}, false}, {of(1, []int{-2, most}), []int{-most}, false},
		{closed(4), []int{1, 2, 3, 4}, true}, {of(4, []int{0, 0, 1, 1, 6}), []int{1, 2, 3, 4}, false}, {of(4, []int{0, 0, 1, 1, 7}), []int{1, 2, 3, 4}, true}, {of(4, []int{0, 1, 0, -1, -2}), []int{1, 2, 3, 4}, true},
	} {
		if got, err := Has(c.o, c.x); got != c.want || err != nil {
			t.Error(c.o, c.x, got, err)
		}
	}
	for _, c := range []struct {
		o    Octagon
		x    []int
		want error
	}{
		{of(1), nil, api.ErrShape}, {of(1), []int{1, 2}, api.ErrShape}, {of(0), []int{1}, api.ErrShape}, {of(4), []int{1, 2, 3}, api.ErrShape}, {none(2), []int{1}, api.ErrShape}, {of(2), []int{1, 2, 3, 4}, api.ErrShape},
		{of(1), []int{over}, api.ErrBound}, {of(2), []int{0, -over}, api.ErrBound}, {of(2), []int{math.MinInt, 0}, api.ErrBound}, {of(2), []int{0, math.MaxInt}, api.ErrBound}, {none(2), []int{0, over}, api.ErrBound},
		{of(1), []int{over, over}, api.ErrShape}, {of(5), []int{over}, api.ErrBound}, {Octagon{N: 1}, []int{over}, api.ErrShape}, {Octagon{N: -1}, nil, api.ErrBound}, {Octagon{1, []Cell{{true, 1}, {}, {}, {}}}, []int{over}, api.ErrOrder}, {Octagon{1, []Cell{{true, 1}, {}, {}, {}}}, nil, api.ErrOrder},
	} {
		if got, err := Has(c.o, c.x); got || err != c.want {
			t.Error(c.o, c.x, got, err, "want", c.want)
		}
	}
}

// P91: what was worked out by hand.
func TestClose(t *testing.T) {
	for _, c := range []struct{ o, want Octagon }{
		{of(0), of(0)}, {of(1), closed(1)}, {of(4), closed(4)}, {closed(3), closed(3)}, {of(1, []int{0, 5}), closed(1)}, {of(1, is(1, 0, 2, 4)...), closed(1, is(1, 0, 2, 4)...)},
		// Twice a number at most 3 is the number at most 1; likewise downward.
		{of(1, []int{2, 3}), closed(1, []int{2, 2})}, {of(1, []int{-2, 3}), closed(1, []int{-2, 2})}, {of(1, []int{2, -3}), closed(1, []int{2, -4})}, {of(1, []int{-2, -3}), closed(1, []int{-2, -4})}, {of(1, []int{2, -1}, []int{-2, 3}), closed(1, is(1, 0, -1, -1)...)},
		// Two of one variable.
		{of(2, []int{1, 1, 3}, []int{1, -1, 2}), closed(2, []int{1, 1, 3}, []int{1, -1, 2}, []int{2, 0, 4})},
		{of(2, []int{-1, -1, -3}, []int{-1, 1, 2}), closed(2, []int{-1, -1, -3}, []int{-1, 1, 2}, []int{-2, 0, -2})},
		// Two by themselves: what each is at most, as a whole number.
		{of(2, []int{2, 0, 6}, []int{0, 2, 10}), closed(2, []int{2, 0, 6}, []int{0, 2, 10}, []int{1, 1, 8})},
		{of(2, []int{2, 0, 3}, []int{0, -2, 5}), closed(2, []int{2, 0, 2}, []int{0, -2, 4}, []int{1, -1, 3})},
		{of(2, []int{2, 0, 3}, []int{0, 2, 3}, []int{1, 1, 1}), closed(2, []int{2, 0, 2}, []int{0, 2, 2}, []int{1, 1, 1})},
		// A sum, and one of both: what the other one is.
		{of(2, []int{1, 1, 3}, []int{-2, 0, -3}), closed(2, []int{1, 1, 3}, []int{-2, 0, -4}, []int{0, 2, 2}, []int{-1, 1, -1})},
		// By the way of a third one, which is then also less by itself.
		{of(3, []int{1, 1, 0, 3}, []int{0, -1, 1, 2}), closed(3, []int{1, 1, 0, 3}, []int{0, -1, 1, 2}, []int{1, 0, 1, 5})},
		{of(3, []int{1, 1, 0, 1}, []int{1, 0, 1, 1}, []int{0, -1, -1, 1}), closed(3, []int{1, 1, 0, 1}, []int{1, 0, 1, 1}, []int{0, -1, -1, 1}, []int{2, 0, 0, 2}, []int{1, -1, 0, 2}, []int{1, 0, -1, 2})},
		// Only the evened one tells more of two: x0 is at most 1, so x0 and x3 are at most 2 together.
		{of(4, []int{1, 1, 0, 0, 2}, []int{1, -1, 0, 0, 1}, []int{0, 0, 1, 1, 2}, []int{0, 0, -1, 1, 1}), closed(4, []int{1, 1, 0, 0, 2}, []int{1, -1, 0, 0, 1}, []int{0, 0, 1, 1, 2}, []int{0, 0, -1, 1, 1}, []int{2, 0, 0, 0, 2}, []int{0, 0, 0, 2, 2}, []int{1, 0, 0, 1, 2})},
		// Just one point is left.
		{of(2, []int{1, 1, 3}, []int{-1, -1, -3}, []int{1, -1, 1}, []int{-1, 1, -1}), closed(2, slices.Concat(is(2, 0, 2, 2), is(2, 1, 1, 1), [][]int{{1, 1, 3}, {-1, -1, -3}, {1, -1, 1}, {-1, 1, -1}})...)},
	} {
		checkClose(t, c.o, c.want)
	}
}

func checkClose(t *testing.T, o, want Octagon) {
	t.Helper()
	if got, ok, err := Close(o); !same(got, want) || !ok || err != nil {
		t.Error(o, got, ok, err, "want", want)
	}
}

// P91: a bound above MaxBound is none, one below minus MaxBound becomes just that; what lies between is exact.
func TestCloseGreat(t *testing.T) {
	half := most / 2
	for _, c := range []struct{ o, want Octagon }{
		{of(1, []int{2, most}), closed(1, []int{2, most})}, {of(1, []int{2, most - 1}), closed(1, []int{2, most - 2})}, {of(1, []int{2, -most}), closed(1, []int{2, -most})}, {of(1, []int{2, 1 - most}), closed(1, []int{2, 0 - most})},
		{of(2, []int{2, 0, most}, []int{0, 2, most}), closed(2, []int{2, 0, most}, []int{0, 2, most}, []int{1, 1, most})},
		{of(2, []int{2, 0, -most}, []int{0, 2, -most}), closed(2, []int{2, 0, -most}, []int{0, 2, -most}, []int{1, 1, -most})},
		{of(2, []int{1, 1, half}, []int{1, -1, half}), closed(2, []int{1, 1, half}, []int{1, -1, half}, []int{2, 0, most})},
		{of(2, []int{1, 1, half + 1}, []int{1, -1, half}), closed(2, []int{1, 1, half + 1}, []int{1, -1, half}, []int{2, 0, most})},
		{of(2, []int{1, 1, half + 1}, []int{1, -1, half + 1}), closed(2, []int{1, 1, half + 1}, []int{1, -1, half + 1})},
		{of(2, []int{1, 1, -most}, []int{1, -1, -1}), closed(2, []int{1, 1, -most}, []int{1, -1, -1}, []int{2, 0, -most})},
		// x0 is at most MaxBound; twice that cannot be told, but with x1, minus MaxBound at most, it is 0 at most.
		{of(3, []int{1, 0, 1, most}, []int{1, 0, -1, most}, []int{0, 1, 1, -most}, []int{0, 1, -1, -most}), closed(3, []int{1, 0, 1, most}, []int{1, 0, -1, most}, []int{0, 1, 1, -most}, []int{0, 1, -1, -most}, []int{0, 2, 0, -most}, []int{1, 1, 0, 0})},
		// Far out on the way, and back again.
		{of(4, []int{1, -1, 0, 0, most}, []int{0, 1, -1, 0, most}, []int{0, 0, 1, 1, -most}), closed(4, []int{1, -1, 0, 0, most}, []int{0, 1, -1, 0, most}, []int{0, 0, 1, 1, -most}, []int{0, 1, 0, 1, 0}, []int{1, 0, 0, 1, most})},
	} {
		checkClose(t, c.o, c.want)
	}
}

// P3, P91: no point of whole numbers: false, and nothing beside.
func TestCloseNone(t *testing.T) {
	round := of(4)
	for i := range round.L {
		round.L[i] = Cell{true, -most}
	}
	for _, o := range []Octagon{
		none(1), none(4), of(1, []int{0, -1}), of(4, []int{0, 0, 0, 0, -most}), round, of(2, []int{1, 1, 3}, []int{-1, -1, -4}), of(2, []int{1, 1, -1}, []int{-1, 1, -1}, []int{0, -2, 1}),
		// There is a point, but of no whole numbers: 1/2; between 1/2 and 3/4 of both; 1/2 of all three.
		of(1, []int{2, 1}, []int{-2, -1}), of(1, []int{2, -3}, []int{-2, 3}), of(2, []int{1, 1, 1}, []int{-1, -1, -1}, []int{1, -1, 0}, []int{-1, 1, 0}), of(2, []int{1, 1, 1}, []int{1, -1, 0}, []int{-2, 0, -1}),
		of(3, []int{1, 1, 0, 1}, []int{-1, -1, 0, -1}, []int{0, 1, 1, 1}, []int{0, -1, -1, -1}, []int{1, 0, 1, 1}, []int{-1, 0, -1, -1}),
		// x0 is at most 1 and x1 at most 1, both evened; together they are 3 at least.
		of(4, []int{1, 0, 1, 0, 2}, []int{1, 0, -1, 0, 1}, []int{0, 1, 0, 1, 2}, []int{0, 1, 0, -1, 1}, []int{-1, -1, 0, 0, -3}),
		// Beyond MaxBound there is none, either.
		of(3, []int{1, 1, 0, most}, []int{1, -1, 0, most}, []int{-1, 0, 1, -most}, []int{0, 0, -2, -1}), of(4, []int{1, 1, 0, 0, -most}, []int{1, -1, 0, 0, -most}, []int{-1, 0, 1, 0, most}, []int{-1, 0, -1, 0, most - 1}),
	} {
		if got, ok, err := Close(o); ok || err != nil || !isZero(got) {
			t.Error(o, got, ok, err)
		}
	}
	// And with one more both ways there is one, beyond MaxBound.
	if _, ok, err := Close(of(4, []int{1, 1, 0, 0, -most}, []int{1, -1, 0, 0, -most}, []int{-1, 0, 1, 0, most}, []int{-1, 0, -1, 0, most})); !ok || err != nil {
		t.Error(ok, err)
	}
}

// P92: what was worked out by hand; such as are not tight, and such as have no points.
func TestJoin(t *testing.T) {
	three, five := of(2, is(2, 0, 3, 3)...), of(2, is(2, 0, 4, 5)...)
	point := func(x, y int) Octagon { return of(2, slices.Concat(is(2, 0, x, x), is(2, 1, y, y))...) }
	for _, c := range []struct{ a, b, want Octagon }{
		{of(0), of(0), of(0)}, {three, three, closed(2, is(2, 0, 3, 3)...)}, {three, five, closed(2, is(2, 0, 3, 5)...)}, {three, of(2), closed(2)}, {of(1, []int{2, 3}), of(1, []int{2, 1}), closed(1, []int{2, 2})},
		{three, none(2), closed(2, is(2, 0, 3, 3)...)}, {of(2), none(2), closed(2)}, {of(2, []int{0, 0, 4}), none(2), closed(2)}, {of(1, []int{2, 3}), of(1, []int{2, 1}, []int{-2, -1}), closed(1, []int{2, 2})},
		// Only tight ones tell what both have.
		{of(2, []int{1, 1, 3}, []int{1, -1, 2}), of(2, []int{2, 0, 3}), closed(2, []int{2, 0, 4})},
		// Of two points: what they have together.
		{point(0, 0), point(3, 5), closed(2, slices.Concat(is(2, 0, 0, 3), is(2, 1, 0, 5), [][]int{{1, 1, 8}, {-1, -1, 0}, {-1, 1, 2}, {1, -1, 0}})...)},
		{point(0, 1), point(1, 0), closed(2, slices.Concat(is(2, 0, 0, 1), is(2, 1, 0, 1), [][]int{{1, 1, 1}, {-1, -1, -1}, {-1, 1, 1}, {1, -1, 1}})...)},
		// Both are MaxBound at most, by unlike ways: twice that cannot be told; minus MaxBound can.
		{of(3, []int{1, 1, 0, most}, []int{1, -1, 0, most}), of(3, []int{1, 0, 1, most}, []int{1, 0, -1, most}), closed(3)},
		{of(3, []int{1, 1, 0, -most}, []int{1, -1, 0, -most}), of(3, []int{1, 0, 1, -most}, []int{1, 0, -1, -most}), closed(3, []int{2, 0, 0, -most})},
	} {
		for _, l := range [][2]Octagon{{c.a, c.b}, {c.b, c.a}} {
			if o, err := Join(l[0], l[1]); !same(o, c.want) || err != nil {
				t.Error(l, o, err, "want", c.want)
			}
		}
	}
	for _, l := range [][2]Octagon{{none(2), none(2)}, {none(1), of(1, []int{0, -1})}, {of(1, []int{2, 1}, []int{-2, -1}), none(1)}} {
		if o, err := Join(l[0], l[1]); err != api.ErrEmpty || !isZero(o) {
			t.Error(l, o, err)
		}
	}
}

// P92: what was worked out by hand.
func TestMeet(t *testing.T) {
	for _, c := range []struct{ a, b, want Octagon }{
		{of(0), of(0), of(0)}, {of(2), of(2), closed(2)}, {of(2, is(2, 0, 0, 9)...), of(2, is(2, 0, 4, 12)...), closed(2, is(2, 0, 4, 9)...)}, {of(2, is(2, 0, 0, 9)...), of(2), closed(2, is(2, 0, 0, 9)...)},
		{of(2, []int{1, 1, 3}), of(2, []int{1, -1, 2}), closed(2, []int{1, 1, 3}, []int{1, -1, 2}, []int{2, 0, 4})},
		{of(2, []int{1, 1, 3}, []int{1, -1, 9}), of(2, []int{1, 1, 9}, []int{1, -1, 2}), closed(2, []int{1, 1, 3}, []int{1, -1, 2}, []int{2, 0, 4})},
		{of(2, []int{2, 0, -most}), of(2, []int{-1, 1, -1}), closed(2, []int{2, 0, -most}, []int{-1, 1, -1}, []int{1, 1, -most}, []int{0, 2, -most})},
	} {
		for _, l := range [][2]Octagon{{c.a, c.b}, {c.b, c.a}} {
			if o, ok, err := Meet(l[0], l[1]); !same(o, c.want) || !ok || err != nil {
				t.Error(l, o, ok, err, "want", c.want)
			}
		}
	}
	for _, l := range [][2]Octagon{
		{of(2, is(2, 0, 3, 3)...), of(2, is(2, 0, 4, 5)...)}, {none(2), of(2)}, {of(2), none(2)}, {none(2), none(2)}, {of(1), of(1, []int{0, -1})}, {of(1, []int{2, 1}), of(1, []int{-2, -1})}, {of(2, []int{1, 1, -1}), of(2, []int{-1, -1, 0})},
	} {
		if o, ok, err := Meet(l[0], l[1]); ok || err != nil || !isZero(o) {
			t.Error(l, o, ok, err)
		}
	}
}

// P92: what was worked out by hand: whole points count, not cells.
func TestWithin(t *testing.T) {
	two := of(2, []int{1, 1, 3}, []int{1, -1, 2})
	for _, c := range []struct {
		a, b Octagon
		want bool
	}{
		{of(0), of(0), true}, {of(2), of(2), true}, {of(2), closed(2), true}, {closed(2), of(2), true}, {of(2), of(2, []int{0, 0, 3}), true}, {of(2, []int{0, 0, 3}), of(2, []int{0, 0, 2}), true},
		{two, of(2, []int{2, 0, 5}), true}, {two, of(2, []int{2, 0, 4}), true}, {two, of(2, []int{2, 0, 3}), false}, {of(2, []int{2, 0, 4}), two, false}, {two, of(2), true}, {of(2), two, false},
		{of(1, []int{2, 5}), of(1, []int{2, 4}), true}, {of(1, []int{2, 5}), of(1, []int{2, 3}), false}, {of(2, is(2, 0, 1, 1)...), of(2, []int{2, 0, 3}), true},
		{none(2), two, true}, {none(2), none(2), true}, {two, none(2), false}, {none(2), of(2, []int{0, 0, -1}), true}, {of(2), of(2, []int{0, 0, -1}), false}, {of(1, []int{2, 1}, []int{-2, -1}), none(1), true}, {of(1), of(1, []int{2, 1}, []int{-2, -1}), false},
		{of(2, []int{1, 1, -most}, []int{1, -1, -1}), of(2, []int{2, 0, -most}), true}, {of(2, []int{1, 1, most}, []int{1, -1, 0}), of(2, []int{2, 0, most}), true}, {of(2, []int{1, 1, most}, []int{1, -1, 2}), of(2, []int{2, 0, most}), false},
	} {
		if got, err := Within(c.a, c.b); got != c.want || err != nil {
			t.Error(c, got, err)
		}
	}
}

// P94: what was worked out by hand: the tight one, whole cells and all; 0 below 0 leaves nothing.
func TestOfZone(t *testing.T) {
	cells := func(n int, l ...[3]int) zone.Zone {
		z := zone.Zone{N: n, L: make([]zone.Cell, (n+1)*(n+1))}
		for _, c := range l {
			z.L[c[0]*(n+1)+c[1]] = zone.Cell{Has: true, Most: c[2]}
		}
		return z
	}
	for _, c := range []struct {
		z    zone.Zone
		want Octagon
	}{
		{cells(0), of(0)}, {cells(0, [3]int{0, 0, 0}), of(0)}, {cells(1), closed(1)}, {cells(4), closed(4)}, {cells(2, [3]int{1, 1, 3}, [3]int{0, 0, 9}), closed(2)},
		{cells(1, [3]int{0, 1, 3}, [3]int{1, 0, 1}), closed(1, is(1, 0, -1, 3)...)}, {cells(1, [3]int{0, 1, 3}), closed(1, []int{2, 6})}, {cells(1, [3]int{1, 0, 3}), closed(1, []int{-2, 6})},
		{cells(2, [3]int{1, 2, 4}), closed(2, []int{-1, 1, 4})}, {cells(2, [3]int{2, 1, 4}), closed(2, []int{1, -1, 4})},
		{cells(2, [3]int{0, 1, 3}, [3]int{0, 2, 4}), closed(2, []int{2, 0, 6}, []int{0, 2, 8}, []int{1, 1, 7})},
		{cells(2, [3]int{0, 1, 3}, [3]int{1, 2, 2}), closed(2, []int{2, 0, 6}, []int{-1, 1, 2}, []int{0, 2, 10}, []int{1, 1, 8})},
		{cells(2, [3]int{0, 1, 3}, [3]int{2, 0, 4}), closed(2, []int{2, 0, 6}, []int{0, -2, 8}, []int{1, -1, 7})},
		// Twice a bound: above MaxBound it is none, below minus MaxBound it is just that.
		{cells(1, [3]int{0, 1, most / 2}), closed(1, []int{2, most})}, {cells(1, [3]int{0, 1, most/2 + 1}), closed(1)}, {cells(1, [3]int{0, 1, most}), closed(1)}, {cells(1, [3]int{0, 1, -most}), closed(1, []int{2, -most})}, {cells(1, [3]int{1, 0, -most}, [3]int{0, 1, most}), closed(1, []int{-2, -most})},
		// 2 MaxBound and minus 2 MaxBound at most: 0 at most together.
		{cells(4, [3]int{0, 1, most}, [3]int{1, 2, most}, [3]int{0, 3, -most}, [3]int{3, 4, -most}), closed(4, []int{-1, 1, 0, 0, most}, []int{0, 0, 2, 0, -most}, []int{0, 0, -1, 1, -most}, []int{0, 0, 0, 2, -most}, []int{1, 0, 1, 0, 0}, []int{1, 0, 0, 1, -most}, []int{0, 1, 1, 0, most}, []int{0, 1, 0, 1, 0}, []int{0, 0, 1, 1, -most})},
	} {
		if o, ok, err := OfZone(c.z); !same(o, c.want) || !ok || err != nil {
			t.Error(c.z, o, ok, err, "want", c.want)
		}
	}
	for _, z := range []zone.Zone{cells(0, [3]int{0, 0, -1}), cells(2, [3]int{0, 0, -1}), cells(2, [3]int{2, 2, -1}), cells(1, [3]int{0, 1, 0}, [3]int{1, 0, -1}), cells(2, [3]int{1, 2, 1}, [3]int{2, 1, -2})} {
		if o, ok, err := OfZone(z); ok || err != nil || !isZero(o) {
			t.Error(z, o, ok, err)
		}
	}
	for _, z := range []zone.Zone{{}, {N: 1}, {N: 5}, {N: -1}, cells(1, [3]int{0, 1, over}), {N: 0, L: []zone.Cell{{Most: 1}}}, {N: 1, L: []zone.Cell{{Has: true, Most: -1}, {Most: 1}, {}, {}}}, {N: math.MaxInt}} {
		want := zone.Valid(z)
		if o, ok, err := OfZone(z); want == nil || ok || err != want || !isZero(o) {
			t.Error(z, o, ok, err, "want", want)
		}
	}
}

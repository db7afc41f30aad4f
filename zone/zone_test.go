package zone

import (
	"fmt"
	"math"
	"slices"
	"strings"
	"sync"
	"testing"

	"raycone/api"
	"raycone/bound"
)

const (
	most = api.MaxBound
	over = api.MaxBound + 1
)

// of n variables, with bounds: row, column, most.
func of(n int, l ...[3]int) Zone {
	z := Zone{N: n, L: make([]Cell, (n+1)*(n+1))}
	for _, c := range l {
		z.L[c[0]*(n+1)+c[1]] = Cell{Has: true, Most: c[2]}
	}
	return z
}

// closed: as of, and each variable less itself is at most 0.
func closed(n int, l ...[3]int) Zone {
	for i := range n + 1 {
		l = append(l, [3]int{i, i, 0})
	}
	return of(n, l...)
}

// is: variable x is from low to high.
func is(x, low, high int) [][3]int { return [][3]int{{0, x, high}, {x, 0, -low}} }

// none: n variables (1 at least), and no point.
func none(n int) Zone { return of(n, [3]int{0, 1, 0}, [3]int{1, 0, -1}) }

func same(a, b Zone) bool { return a.N == b.N && slices.Equal(a.L, b.L) }

func isZero(z Zone) bool { return z.N == 0 && len(z.L) == 0 }

// P80: the form, and which error comes first.
func TestValid(t *testing.T) {
	cells := func(n int, l ...Cell) Zone {
		return Zone{N: n, L: l}
	}
	zero, far, loose := Cell{}, Cell{true, over}, Cell{false, 1}
	for _, c := range []struct {
		z    Zone
		want error
	}{
		{of(0), nil}, {of(1), nil}, {of(4), nil}, {closed(4), nil}, {of(1, [3]int{0, 1, most}, [3]int{1, 0, -most}), nil}, {none(2), nil}, {cells(0, Cell{true, -1}), nil},
		{Zone{N: -1}, api.ErrBound}, {of(5), api.ErrBound}, {Zone{N: math.MaxInt}, api.ErrBound}, {Zone{N: math.MinInt}, api.ErrBound}, {cells(-1, zero), api.ErrBound}, {cells(-2, zero), api.ErrBound},
		{Zone{}, api.ErrShape}, {Zone{N: 1}, api.ErrShape}, {cells(0, zero, zero), api.ErrShape}, {cells(1, zero, zero, zero), api.ErrShape}, {cells(1, zero, zero, zero, zero, zero), api.ErrShape}, {Zone{N: 4, L: make([]Cell, 16)}, api.ErrShape}, {Zone{N: 1, L: []Cell{}}, api.ErrShape},
		{cells(0, loose), api.ErrShape}, {cells(0, Cell{false, -1}), api.ErrShape}, {cells(0, Cell{false, math.MinInt}), api.ErrShape}, {cells(1, zero, zero, zero, loose), api.ErrShape},
		{cells(0, far), api.ErrBound}, {cells(0, Cell{true, -over}), api.ErrBound}, {cells(0, Cell{true, math.MaxInt}), api.ErrBound}, {cells(0, Cell{true, math.MinInt}), api.ErrBound}, {cells(1, zero, zero, zero, far), api.ErrBound},
		// More than one thing is wrong: what is named first is told.
		{cells(5, loose), api.ErrBound}, {cells(0, far, zero), api.ErrShape}, {cells(1, far, zero, zero, loose), api.ErrShape}, {cells(1, loose, far, zero, zero), api.ErrShape},
	} {
		if err := Valid(c.z); err != c.want {
			t.Error(c.z, err, "want", c.want)
		}
	}
}

// P80: points, also of zones that are not closed, and of such as have none.
func TestHas(t *testing.T) {
	far := of(2, [3]int{0, 1, most}, [3]int{1, 0, most}, [3]int{1, 2, most})
	for _, c := range []struct {
		z    Zone
		x    []int
		want bool
	}{
		{of(0), nil, true}, {of(0), []int{}, true}, {of(0, [3]int{0, 0, -1}), nil, false}, {of(0, [3]int{0, 0, 0}), nil, true},
		{of(1), []int{5}, true}, {of(1), []int{-most}, true}, {of(1, is(1, 2, 4)...), []int{1}, false}, {of(1, is(1, 2, 4)...), []int{2}, true}, {of(1, is(1, 2, 4)...), []int{4}, true}, {of(1, is(1, 2, 4)...), []int{5}, false},
		{of(2, [3]int{1, 2, 2}), []int{1, 3}, true}, {of(2, [3]int{1, 2, 2}), []int{1, 4}, false}, {of(2, [3]int{1, 2, 2}), []int{4, 1}, true}, {of(2, [3]int{2, 1, 2}), []int{4, 1}, false},
		{of(2, [3]int{1, 1, -1}), []int{0, 0}, false}, {of(2, [3]int{1, 1, 7}), []int{0, 0}, true}, {none(2), []int{0, 0}, false}, {none(2), []int{1, 0}, false},
		{far, []int{-most, 0}, true}, {far, []int{-most, 1}, false}, {far, []int{0, most}, true}, {far, []int{-most, most}, false}, {of(2), []int{-most, most}, true},
		{closed(4), []int{1, 2, 3, 4}, true}, {of(4, [3]int{4, 3, -2}), []int{1, 2, 3, 4}, false}, {of(4, [3]int{4, 3, -1}), []int{1, 2, 3, 4}, true},
	} {
		if got, err := Has(c.z, c.x); got != c.want || err != nil {
			t.Error(c.z, c.x, got, err)
		}
	}
	for _, c := range []struct {
		z    Zone
		x    []int
		want error
	}{
		{of(1), nil, api.ErrShape}, {of(1), []int{1, 2}, api.ErrShape}, {of(0), []int{1}, api.ErrShape}, {of(4), []int{1, 2, 3}, api.ErrShape}, {none(2), []int{1}, api.ErrShape},
		{of(1), []int{over}, api.ErrBound}, {of(2), []int{0, -over}, api.ErrBound}, {of(2), []int{math.MinInt, 0}, api.ErrBound}, {of(2), []int{0, math.MaxInt}, api.ErrBound}, {none(2), []int{0, over}, api.ErrBound},
		{of(1), []int{over, over}, api.ErrShape}, {of(5), []int{over}, api.ErrBound}, {Zone{}, []int{over}, api.ErrShape}, {Zone{N: 1}, []int{over}, api.ErrShape}, {Zone{N: -1}, nil, api.ErrBound},
	} {
		if got, err := Has(c.z, c.x); got || err != c.want {
			t.Error(c.z, c.x, got, err, "want", c.want)
		}
	}
}

// P81: what was worked out by hand; no bound is beyond MaxBound.
func TestClose(t *testing.T) {
	for _, c := range []struct{ z, want Zone }{
		{of(0), closed(0)}, {of(0, [3]int{0, 0, 9}), closed(0)}, {of(4), closed(4)}, {closed(3), closed(3)}, {of(1, [3]int{1, 1, 5}), closed(1)},
		{of(1, is(1, 2, 4)...), closed(1, is(1, 2, 4)...)},
		{of(2, [3]int{0, 1, 3}, [3]int{1, 2, 2}), closed(2, [3]int{0, 1, 3}, [3]int{1, 2, 2}, [3]int{0, 2, 5})},
		{of(2, [3]int{0, 1, 3}, [3]int{1, 2, 2}, [3]int{0, 2, 9}), closed(2, [3]int{0, 1, 3}, [3]int{1, 2, 2}, [3]int{0, 2, 5})},
		{of(2, [3]int{0, 1, 3}, [3]int{1, 2, 2}, [3]int{0, 2, 4}), closed(2, [3]int{0, 1, 3}, [3]int{1, 2, 2}, [3]int{0, 2, 4})},
		// All round, by the longest way.
		{of(4, [3]int{1, 2, 1}, [3]int{2, 3, 1}, [3]int{3, 4, 1}, [3]int{0, 1, 1}), closed(4, [3]int{0, 1, 1}, [3]int{0, 2, 2}, [3]int{0, 3, 3}, [3]int{0, 4, 4}, [3]int{1, 2, 1}, [3]int{1, 3, 2}, [3]int{1, 4, 3}, [3]int{2, 3, 1}, [3]int{2, 4, 2}, [3]int{3, 4, 1})},
		{of(4, [3]int{4, 3, 1}, [3]int{3, 2, 1}, [3]int{2, 1, 1}, [3]int{1, 0, 1}), closed(4, [3]int{4, 3, 1}, [3]int{4, 2, 2}, [3]int{4, 1, 3}, [3]int{4, 0, 4}, [3]int{3, 2, 1}, [3]int{3, 1, 2}, [3]int{3, 0, 3}, [3]int{2, 1, 1}, [3]int{2, 0, 2}, [3]int{1, 0, 1})},
		// Just one point is left.
		{of(2, [3]int{0, 1, 3}, [3]int{1, 2, 2}, [3]int{2, 0, -5}), closed(2, [3]int{0, 1, 3}, [3]int{1, 2, 2}, [3]int{2, 0, -5}, [3]int{0, 2, 5}, [3]int{1, 0, -3}, [3]int{2, 1, -2})},
		// Above MaxBound: none.
		{of(2, [3]int{0, 1, most}, [3]int{1, 2, 0}), closed(2, [3]int{0, 1, most}, [3]int{1, 2, 0}, [3]int{0, 2, most})},
		{of(2, [3]int{0, 1, most}, [3]int{1, 2, 1}), closed(2, [3]int{0, 1, most}, [3]int{1, 2, 1})},
		{of(2, [3]int{0, 1, most}, [3]int{1, 2, most}), closed(2, [3]int{0, 1, most}, [3]int{1, 2, most})},
		// Below minus MaxBound: just that.
		{of(2, [3]int{1, 0, -most}, [3]int{2, 1, 0}), closed(2, [3]int{1, 0, -most}, [3]int{2, 1, 0}, [3]int{2, 0, -most})},
		{of(2, [3]int{1, 0, -most}, [3]int{2, 1, -1}), closed(2, [3]int{1, 0, -most}, [3]int{2, 1, -1}, [3]int{2, 0, -most})},
		{of(2, [3]int{1, 0, -most}, [3]int{2, 1, -most}), closed(2, [3]int{1, 0, -most}, [3]int{2, 1, -most}, [3]int{2, 0, -most})},
		// Far out on the way, and back again: what lies between is exact.
		{of(3, [3]int{0, 1, most}, [3]int{1, 2, most}, [3]int{2, 3, -most}), closed(3, [3]int{0, 1, most}, [3]int{1, 2, most}, [3]int{2, 3, -most}, [3]int{0, 3, most}, [3]int{1, 3, 0})},
		{of(3, [3]int{0, 1, -most}, [3]int{1, 2, -most}, [3]int{2, 3, most}), closed(3, [3]int{0, 1, -most}, [3]int{1, 2, -most}, [3]int{2, 3, most}, [3]int{0, 2, -most}, [3]int{0, 3, -most}, [3]int{1, 3, 0})},
	} {
		if z, ok, err := Close(c.z); !same(z, c.want) || !ok || err != nil {
			t.Error(c.z, z, ok, err, "want", c.want)
		}
	}
}

// P3, P81: no point: false, and nothing beside.
func TestCloseNone(t *testing.T) {
	round := of(4)
	for i := range round.L {
		round.L[i] = Cell{true, -most}
	}
	for _, z := range []Zone{
		none(1), none(4), of(0, [3]int{0, 0, -1}), of(2, [3]int{2, 2, -1}), of(0, [3]int{0, 0, -most}), round,
		of(2, [3]int{0, 1, 3}, [3]int{1, 2, 2}, [3]int{2, 0, -6}), of(2, [3]int{0, 1, -1}, [3]int{1, 2, -1}, [3]int{2, 0, 1}),
		of(4, [3]int{0, 4, 1}, [3]int{4, 2, 1}, [3]int{2, 3, 1}, [3]int{3, 1, 1}, [3]int{1, 0, -5}), of(4, [3]int{1, 2, most}, [3]int{2, 3, most}, [3]int{3, 4, -most}, [3]int{4, 1, -most}, [3]int{2, 4, -1}),
		// Beyond MaxBound there is none, either: x1 is 2 MaxBound at least by one way, and less by another.
		of(4, [3]int{2, 0, -most}, [3]int{1, 2, -most}, [3]int{0, 3, most}, [3]int{3, 4, most}, [3]int{4, 1, -1}),
	} {
		if got, ok, err := Close(z); ok || err != nil || !isZero(got) {
			t.Error(z, got, ok, err)
		}
	}
	// And 2 MaxBound by both ways is one.
	if _, ok, err := Close(of(4, [3]int{2, 0, -most}, [3]int{1, 2, -most}, [3]int{0, 3, most}, [3]int{3, 4, most}, [3]int{4, 1, 0})); !ok || err != nil {
		t.Error(ok, err)
	}
}

// P82: what was worked out by hand; unclosed ones, and such as have no points.
func TestJoin(t *testing.T) {
	three, five := of(2, is(1, 3, 3)...), of(2, is(1, 4, 5)...)
	for _, c := range []struct{ a, b, want Zone }{
		{of(0), of(0), closed(0)}, {three, three, closed(2, is(1, 3, 3)...)}, {three, five, closed(2, is(1, 3, 5)...)}, {three, of(2), closed(2)},
		{three, none(2), closed(2, is(1, 3, 3)...)}, {none(2), three, closed(2, is(1, 3, 3)...)}, {of(2), none(2), closed(2)}, {of(2, [3]int{1, 1, 4}), none(2), closed(2)},
		// Only closed ones tell what both have.
		{of(2, [3]int{0, 1, 3}, [3]int{1, 2, 2}), of(2, [3]int{0, 2, 4}), closed(2, [3]int{0, 2, 5})},
		// Of two points: what they have together.
		{of(2, slices.Concat(is(1, 0, 0), is(2, 0, 0))...), of(2, slices.Concat(is(1, 3, 3), is(2, 5, 5))...), closed(2, slices.Concat(is(1, 0, 3), is(2, 0, 5), [][3]int{{1, 2, 2}, {2, 1, 0}})...)},
		// 2 MaxBound of both, by unlike ways: it cannot be told.
		{of(3, [3]int{0, 2, most}, [3]int{2, 1, most}), of(3, [3]int{0, 3, most}, [3]int{3, 1, most}), closed(3)},
		{of(3, [3]int{1, 2, -most}, [3]int{2, 0, -most}), of(3, [3]int{1, 3, -most}, [3]int{3, 0, -most}), closed(3, [3]int{1, 0, -most})},
	} {
		for _, l := range [][2]Zone{{c.a, c.b}, {c.b, c.a}} {
			if z, err := Join(l[0], l[1]); !same(z, c.want) || err != nil {
				t.Error(l, z, err, "want", c.want)
			}
		}
	}
	for _, l := range [][2]Zone{{none(2), none(2)}, {none(1), of(1, [3]int{1, 1, -1})}, {of(0, [3]int{0, 0, -1}), of(0, [3]int{0, 0, -2})}} {
		if z, err := Join(l[0], l[1]); err != api.ErrEmpty || !isZero(z) {
			t.Error(l, z, err)
		}
	}
}

// P82: what was worked out by hand.
func TestMeet(t *testing.T) {
	for _, c := range []struct{ a, b, want Zone }{
		{of(0), of(0), closed(0)}, {of(2), of(2), closed(2)}, {of(2, is(1, 0, 9)...), of(2, is(1, 4, 12)...), closed(2, is(1, 4, 9)...)}, {of(2, is(1, 0, 9)...), of(2), closed(2, is(1, 0, 9)...)},
		{of(2, [3]int{0, 1, 3}), of(2, [3]int{1, 2, 2}), closed(2, [3]int{0, 1, 3}, [3]int{1, 2, 2}, [3]int{0, 2, 5})},
		{of(2, [3]int{0, 1, 3}, [3]int{1, 2, 7}), of(2, [3]int{0, 1, 8}, [3]int{1, 2, 2}), closed(2, [3]int{0, 1, 3}, [3]int{1, 2, 2}, [3]int{0, 2, 5})},
		{of(2, [3]int{1, 0, -most}), of(2, [3]int{2, 1, -1}), closed(2, [3]int{1, 0, -most}, [3]int{2, 1, -1}, [3]int{2, 0, -most})},
	} {
		for _, l := range [][2]Zone{{c.a, c.b}, {c.b, c.a}} {
			if z, ok, err := Meet(l[0], l[1]); !same(z, c.want) || !ok || err != nil {
				t.Error(l, z, ok, err, "want", c.want)
			}
		}
	}
	for _, l := range [][2]Zone{
		{of(2, is(1, 3, 3)...), of(2, is(1, 4, 5)...)}, {none(2), of(2)}, {of(2), none(2)}, {none(2), none(2)}, {of(0), of(0, [3]int{0, 0, -1})}, {of(2, [3]int{1, 2, -1}), of(2, [3]int{2, 1, 0})},
	} {
		if z, ok, err := Meet(l[0], l[1]); ok || err != nil || !isZero(z) {
			t.Error(l, z, ok, err)
		}
	}
}

// P82: what was worked out by hand: points count, not cells.
func TestWithin(t *testing.T) {
	chain := of(2, [3]int{0, 1, 3}, [3]int{1, 2, 2})
	for _, c := range []struct {
		a, b Zone
		want bool
	}{
		{of(0), of(0), true}, {of(0), of(0, [3]int{0, 0, -1}), false}, {of(0, [3]int{0, 0, -1}), of(0), true}, {of(2), of(2), true}, {of(2), closed(2), true}, {closed(2), of(2), true}, {of(2), of(2, [3]int{1, 1, 3}), true}, {of(2, [3]int{1, 1, 3}), of(2, [3]int{1, 1, 2}), true},
		{chain, of(2, [3]int{0, 2, 5}), true}, {chain, of(2, [3]int{0, 2, 4}), false}, {of(2, [3]int{0, 2, 5}), chain, false}, {chain, of(2), true}, {of(2), chain, false},
		{none(2), chain, true}, {none(2), none(2), true}, {chain, none(2), false}, {none(2), of(2, [3]int{2, 2, -1}), true}, {of(2), of(2, [3]int{2, 2, -1}), false},
		{of(2, [3]int{1, 0, -most}, [3]int{2, 1, -1}), of(2, [3]int{2, 0, -most}), true}, {of(2, [3]int{0, 1, most}, [3]int{1, 2, 1}), of(2, [3]int{0, 2, most}), false},
	} {
		if got, err := Within(c.a, c.b); got != c.want || err != nil {
			t.Error(c, got, err)
		}
	}
}

// P83: what was worked out by hand: what x told of others is left.
func TestForget(t *testing.T) {
	chain := of(2, [3]int{0, 1, 3}, [3]int{1, 2, 2})
	for _, c := range []struct {
		z    Zone
		x    int
		want Zone
	}{
		{of(1, is(1, 2, 4)...), 1, closed(1)}, {chain, 1, closed(2, [3]int{0, 2, 5})}, {chain, 2, closed(2, [3]int{0, 1, 3})}, {of(4), 4, closed(4)}, {of(1, [3]int{1, 1, 7}), 1, closed(1)},
		{of(3, [3]int{3, 2, -4}, [3]int{2, 1, 1}), 2, closed(3, [3]int{3, 1, -3})},
		{of(2, [3]int{1, 0, -most}, [3]int{2, 1, -1}), 1, closed(2, [3]int{2, 0, -most})}, {of(2, [3]int{0, 1, most}, [3]int{1, 2, 1}), 1, closed(2)},
	} {
		if z, ok, err := Forget(c.z, c.x); !same(z, c.want) || !ok || err != nil {
			t.Error(c.z, c.x, z, ok, err, "want", c.want)
		}
	}
	if z, ok, err := Forget(none(2), 1); ok || err != nil || !isZero(z) {
		t.Error(z, ok, err)
	}
}

// P83: what was worked out by hand: also of x itself, and of numbers alone.
func TestAssign(t *testing.T) {
	z := of(2, [3]int{0, 1, 5}, [3]int{1, 0, -4}, [3]int{1, 2, 1})
	for _, c := range []struct {
		z       Zone
		x, y, c int
		want    Zone
	}{
		{of(1), 1, 0, 7, closed(1, is(1, 7, 7)...)}, {of(1), 1, 1, 7, closed(1)}, {of(1, is(1, 2, 4)...), 1, 1, -1, closed(1, is(1, 1, 3)...)}, {of(1, is(1, 2, 4)...), 1, 0, -1, closed(1, is(1, -1, -1)...)}, {of(1, [3]int{1, 1, 5}), 1, 1, 2, closed(1)},
		{z, 2, 1, 3, closed(2, slices.Concat(is(1, 4, 5), is(2, 7, 8), [][3]int{{1, 2, 3}, {2, 1, -3}})...)},
		{z, 1, 2, 3, closed(2, [3]int{0, 2, 6}, [3]int{0, 1, 9}, [3]int{1, 2, -3}, [3]int{2, 1, 3})},
		{z, 2, 0, 3, closed(2, slices.Concat(is(1, 4, 5), is(2, 3, 3), [][3]int{{1, 2, -1}, {2, 1, 2}})...)},
		{z, 1, 1, 10, closed(2, slices.Concat(is(1, 14, 15), [][3]int{{0, 2, 6}, {1, 2, -9}})...)},
		{z, 2, 2, -10, closed(2, slices.Concat(is(1, 4, 5), [][3]int{{0, 2, -4}, {1, 2, -9}})...)},
		{z, 2, 2, 0, closed(2, slices.Concat(is(1, 4, 5), [][3]int{{0, 2, 6}, {1, 2, 1}})...)},
		// Beyond MaxBound: a bound above is none, one below is minus MaxBound.
		{of(1, is(1, 1, 1)...), 1, 1, most, closed(1, [3]int{1, 0, -most})}, {of(1, is(1, -1, -1)...), 1, 1, -most, closed(1, [3]int{0, 1, -most})}, {of(1, is(1, most, most)...), 1, 1, -most, closed(1, is(1, 0, 0)...)}, {of(1), 1, 0, most, closed(1, is(1, most, most)...)},
		// 2 MaxBound at most, by way of x alone: less MaxBound, it can be told.
		{of(2, [3]int{0, 2, most}, [3]int{2, 1, most}), 2, 1, -most, closed(2, [3]int{0, 2, most}, [3]int{1, 2, -most}, [3]int{2, 1, most})},
		{of(2, [3]int{2, 0, -most}, [3]int{1, 2, -most}), 1, 1, -most, closed(2, [3]int{2, 0, -most}, [3]int{1, 2, 0}, [3]int{1, 0, -most})},
	} {
		if z, ok, err := Assign(c.z, c.x, c.y, c.c); !same(z, c.want) || !ok || err != nil {
			t.Error(c, z, ok, err, "want", c.want)
		}
	}
	for y := range 3 {
		if z, ok, err := Assign(none(2), 1, y, 1); ok || err != nil || !isZero(z) {
			t.Error(y, z, ok, err)
		}
	}
}

// P83: what was worked out by hand: also of a variable with itself.
func TestGuard(t *testing.T) {
	z := of(2, [3]int{0, 1, 3}, [3]int{1, 0, 0})
	for _, c := range []struct {
		z       Zone
		i, j, c int
		want    Zone
	}{
		{of(0), 0, 0, 0, closed(0)}, {of(0), 0, 0, most, closed(0)}, {z, 0, 1, 2, closed(2, is(1, 0, 2)...)}, {z, 0, 1, 4, closed(2, is(1, 0, 3)...)}, {z, 1, 0, -2, closed(2, is(1, 2, 3)...)}, {z, 1, 1, 0, closed(2, is(1, 0, 3)...)}, {z, 2, 2, 9, closed(2, is(1, 0, 3)...)},
		{z, 1, 2, 2, closed(2, slices.Concat(is(1, 0, 3), [][3]int{{1, 2, 2}, {0, 2, 5}})...)}, {z, 2, 1, -2, closed(2, slices.Concat(is(1, 0, 3), [][3]int{{2, 1, -2}, {2, 0, -2}})...)}, {z, 0, 1, 0, closed(2, is(1, 0, 0)...)},
		{z, 2, 0, -most, closed(2, slices.Concat(is(1, 0, 3), [][3]int{{2, 0, -most}, {2, 1, 3 - most}})...)}, {z, 0, 2, most, closed(2, slices.Concat(is(1, 0, 3), [][3]int{{0, 2, most}, {1, 2, most}})...)},
	} {
		if z, ok, err := Guard(c.z, c.i, c.j, c.c); !same(z, c.want) || !ok || err != nil {
			t.Error(c, z, ok, err, "want", c.want)
		}
	}
	for _, c := range []struct {
		z       Zone
		i, j, c int
	}{
		{z, 0, 1, -1}, {z, 1, 0, -4}, {z, 1, 1, -1}, {z, 0, 0, -most}, {of(0), 0, 0, -1}, {none(2), 0, 2, 5}, {none(2), 0, 1, most},
	} {
		if z, ok, err := Guard(c.z, c.i, c.j, c.c); ok || err != nil || !isZero(z) {
			t.Error(c, z, ok, err)
		}
	}
}

// P84: what was worked out by hand: a is not closed, b is.
func TestWiden(t *testing.T) {
	three, wide := of(2, is(1, 3, 3)...), of(2, is(1, 3, 5)...)
	chain := of(2, [3]int{0, 1, 3}, [3]int{1, 2, 2})
	for _, c := range []struct{ a, b, want Zone }{
		{of(0), of(0), of(0)}, {of(0), closed(0), of(0)}, {closed(0), of(0), closed(0)}, {of(0, [3]int{0, 0, 5}), of(0), of(0, [3]int{0, 0, 5})},
		{three, wide, of(2, [3]int{1, 0, -3})}, {wide, three, wide}, {three, three, three}, {three, of(2), of(2)}, {of(2), three, of(2)}, {wide, of(2, is(1, 2, 5)...), of(2, [3]int{0, 1, 5})},
		{closed(2, is(1, 3, 3)...), wide, closed(2, [3]int{1, 0, -3})}, {of(2, [3]int{1, 1, 4}, [3]int{0, 1, 3}), three, of(2, [3]int{1, 1, 4}, [3]int{0, 1, 3})},
		// b is closed first: so its bound of x2 counts, though no cell has it.
		{of(2, [3]int{0, 2, 5}), chain, of(2, [3]int{0, 2, 5})}, {of(2, [3]int{0, 2, 4}), chain, of(2)},
		// a is not: what it lacks, it does not get.
		{chain, of(2, [3]int{0, 1, 3}, [3]int{1, 2, 2}, [3]int{0, 2, 4}), chain}, {chain, of(2, [3]int{0, 1, 3}, [3]int{1, 2, 3}), of(2, [3]int{0, 1, 3})}, {of(2, [3]int{0, 1, 3}, [3]int{0, 2, 9}, [3]int{1, 2, 2}), chain, of(2, [3]int{0, 1, 3}, [3]int{0, 2, 9}, [3]int{1, 2, 2})},
		// Without points.
		{none(2), chain, closed(2, [3]int{0, 1, 3}, [3]int{1, 2, 2}, [3]int{0, 2, 5})}, {chain, none(2), chain}, {of(2, [3]int{1, 1, 3}), none(2), of(2, [3]int{1, 1, 3})}, {none(2), of(2, [3]int{2, 2, -1}), none(2)}, {of(2, [3]int{2, 2, -1}), none(2), of(2, [3]int{2, 2, -1})}, {none(2), of(2), closed(2)},
		// Beyond MaxBound.
		{of(2, [3]int{2, 0, -most}), of(2, [3]int{1, 0, -most}, [3]int{2, 1, -1}), of(2, [3]int{2, 0, -most})}, {of(2, [3]int{0, 2, most}), of(2, [3]int{0, 1, most}, [3]int{1, 2, 1}), of(2)}, {of(2, [3]int{0, 2, most}), of(2, [3]int{0, 1, most}, [3]int{1, 2, 0}), of(2, [3]int{0, 2, most})},
	} {
		if z, err := Widen(c.a, c.b); !same(z, c.want) || err != nil {
			t.Error(c.a, c.b, z, err, "want", c.want)
		}
	}
}

// P84: what was worked out by hand.
func TestBounds(t *testing.T) {
	chain := of(2, [3]int{0, 1, 3}, [3]int{1, 2, 2})
	for _, c := range []struct {
		z    Zone
		x    int
		want api.Interval
	}{
		{of(1), 1, api.Interval{Down: true, Up: true}}, {of(1, is(1, -2, 4)...), 1, api.Interval{Low: -2, High: 4}}, {of(1, is(1, 4, 4)...), 1, api.Interval{Low: 4, High: 4}}, {of(1, [3]int{1, 0, -4}), 1, api.Interval{Up: true, Low: 4}},
		{chain, 1, api.Interval{Down: true, High: 3}}, {chain, 2, api.Interval{Down: true, High: 5}}, {of(4, is(4, 1, 2)...), 4, api.Interval{Low: 1, High: 2}}, {of(4, is(4, 1, 2)...), 3, api.Interval{Down: true, Up: true}},
		{of(1, is(1, -most, most)...), 1, api.Interval{Low: -most, High: most}}, {of(2, [3]int{0, 1, most}, [3]int{1, 2, 1}), 2, api.Interval{Down: true, Up: true}},
		// From above MaxBound on, and to below minus MaxBound: as chapter 6 tells such intervals.
		{of(2, [3]int{1, 0, -most}, [3]int{2, 1, -1}), 2, api.Interval{Up: true, Low: most}}, {of(2, [3]int{0, 1, -most}, [3]int{1, 2, -1}), 2, api.Interval{Down: true, High: -most}},
		{of(2, [3]int{1, 0, -most}, [3]int{0, 1, most}, [3]int{2, 1, -1}, [3]int{1, 2, 1}), 2, api.Interval{Up: true, Low: most}},
	} {
		if got, ok, err := Bounds(c.z, c.x); got != c.want || !ok || err != nil {
			t.Error(c.z, c.x, got, ok, err, "want", c.want)
		}
	}
	if got, ok, err := Bounds(none(2), 2); ok || err != nil || got != (api.Interval{}) {
		t.Error(got, ok, err)
	}
}

// call of the package, whatever it answers: zones, and text for the rest.
type call struct {
	name string
	of   func(a, b Zone, x, y, c int) (Zone, string, bool, error)
}

func some(name string, of func(a, b Zone, x, y, c int) (Zone, bool, error)) call {
	return call{name, func(a, b Zone, x, y, c int) (Zone, string, bool, error) {
		z, ok, err := of(a, b, x, y, c)
		return z, "", ok, err
	}}
}

func always(name string, of func(a, b Zone) (Zone, error)) call {
	return some(name, func(a, b Zone, x, y, c int) (Zone, bool, error) {
		z, err := of(a, b)
		return z, err == nil, err
	})
}

// single: calls of one zone.
func single() []call {
	return []call{
		some("Close", func(a, _ Zone, x, y, c int) (Zone, bool, error) { return Close(a) }),
		some("Forget", func(a, _ Zone, x, y, c int) (Zone, bool, error) { return Forget(a, x) }),
		some("Assign", func(a, _ Zone, x, y, c int) (Zone, bool, error) { return Assign(a, x, y, c) }),
		some("Guard", func(a, _ Zone, x, y, c int) (Zone, bool, error) { return Guard(a, x, y, c) }),
		{"Bounds", func(a, _ Zone, x, y, c int) (Zone, string, bool, error) {
			i, ok, err := Bounds(a, x)
			text := ""
			if i != (api.Interval{}) {
				text = fmt.Sprint(i)
			}
			return Zone{}, text, ok, err
		}},
		some("Has", func(a, _ Zone, x, y, c int) (Zone, bool, error) {
			ok, err := Has(a, []int{x, y})
			return Zone{}, ok, err
		}),
	}
}

// double: calls of two zones.
func double() []call {
	return []call{
		always("Join", Join), always("Widen", Widen),
		some("Meet", func(a, b Zone, x, y, c int) (Zone, bool, error) { return Meet(a, b) }),
		some("Within", func(a, b Zone, x, y, c int) (Zone, bool, error) {
			ok, err := Within(a, b)
			return Zone{}, ok, err
		}),
	}
}

// wild zones: right and wrong ones.
func wild() []Zone {
	l := []Zone{{}, {N: -1}, {N: math.MinInt}, {N: math.MaxInt}, {N: 1 << 32, L: make([]Cell, 1)}, of(5), {N: 2, L: make([]Cell, 8)}, {N: 2, L: make([]Cell, 10)}, {N: 3, L: make([]Cell, 9)}}
	for _, n := range []int{0, 1, 2, 4} {
		l = append(l, of(n), closed(n), of(n, [3]int{n, 0, -most}), of(n, [3]int{0, n, most}), of(n, [3]int{n, n, -1}), of(n, [3]int{0, n, over}), of(n, [3]int{n, 0, math.MinInt}), of(n, [3]int{n, n, math.MaxInt}))
		loose := of(n)
		loose.L[n].Most = math.MaxInt
		full := of(n)
		for i := range full.L {
			full.L[i] = Cell{true, most - i}
		}
		l = append(l, loose, full)
	}
	return l
}

// numbers of every size.
func numbers() []int {
	return []int{math.MinInt, -over, -most, -1, 0, 1, 2, 4, 5, most, over, math.MaxInt}
}

// wantedError of a call of one zone: in the order in which the promises name them.
func wantedError(name string, z Zone, x, y, c int) error {
	outside := func(n, first int) bool { return n < first || n > z.N }
	far := func(n int) bool { return n < -most || n > most }
	if err := Valid(z); err != nil {
		return err
	}
	switch name {
	case "Forget", "Bounds":
		if outside(x, 1) {
			return api.ErrShape
		}
	case "Assign", "Guard":
		first := 0
		if name == "Assign" {
			first = 1
		}
		switch {
		case outside(x, first) || outside(y, 0):
			return api.ErrShape
		case far(c):
			return api.ErrBound
		}
	case "Has":
		switch {
		case z.N != 2:
			return api.ErrShape
		case far(x) || far(y):
			return api.ErrBound
		}
	}
	return nil
}

// P1, P3, P80 to P84: whatever is handed over, errors are told in their order, bare and with nothing else; what is told is valid.
func TestWild(t *testing.T) {
	for _, z := range wild() {
		for _, x := range numbers() {
			for _, y := range numbers() {
				for _, n := range numbers() {
					for _, c := range single() {
						checkWild(t, c, z, z, [3]int{x, y, n}, wantedError(c.name, z, x, y, n))
					}
				}
			}
		}
	}
}

// P1, P3, P82, P84: errors of a are told ahead of those of b, and those ahead of unlike numbers of variables.
func TestWildPairs(t *testing.T) {
	for _, a := range wild() {
		for _, b := range wild() {
			want := bound.First(Valid(a), Valid(b))
			if want == nil && a.N != b.N {
				want = api.ErrShape
			}
			for _, c := range double() {
				checkWild(t, c, a, b, [3]int{}, want)
			}
		}
	}
}

func checkWild(t *testing.T, c call, a, b Zone, n [3]int, want error) {
	t.Helper()
	z, text, ok, err := c.of(a, b, n[0], n[1], n[2])
	if c.name == "Join" && want == nil && hasNone(a) && hasNone(b) {
		want = api.ErrEmpty
	}
	switch {
	case err != want:
		t.Error(c.name, a, b, n, err, "want", want)
	case !ok && (!isZero(z) || text != ""):
		t.Error(c.name, a, b, n, z, text, err)
	case err != nil && ok:
		t.Error(c.name, a, b, n, ok, err)
	case !isZero(z) && (Valid(z) != nil || z.N != a.N):
		t.Error(c.name, a, b, n, z)
	}
}

func hasNone(z Zone) bool {
	_, ok, err := Close(z)
	return !ok && err == nil
}

// P3, P4: what is handed over is only read, and not behind its length; what is answered is new memory.
func TestMemory(t *testing.T) {
	room := func(z Zone) Zone {
		l := append(slices.Clone(z.L), Cell{true, math.MinInt}, Cell{false, 7})
		return Zone{N: z.N, L: l[:len(z.L)]}
	}
	for _, l := range [][2]Zone{
		{of(2, [3]int{0, 1, 3}, [3]int{1, 2, 2}), of(2, [3]int{0, 1, 4})}, {of(2), none(2)}, {none(2), of(2, is(2, 3, 4)...)}, {closed(2), closed(2)}, {none(2), none(2)},
	} {
		for _, c := range append(single(), double()...) {
			a, b := room(l[0]), room(l[1])
			first, _, _, _ := c.of(a, b, 1, 2, 1)
			kept := slices.Clone(first.L)
			if len(first.L) > 0 {
				second, _, _, _ := c.of(a, b, 1, 2, 1)
				fill(second.L[:cap(second.L)])
			}
			if !same(a, l[0]) || !same(b, l[1]) || behind(a) != behind(b) || behind(a) != (Cell{true, math.MinInt}) {
				t.Error(c.name, "changed", a, b)
			}
			fill(a.L)
			fill(b.L)
			if !slices.Equal(first.L, kept) {
				t.Error(c.name, "kept", first, kept)
			}
		}
	}
}

func behind(z Zone) Cell { return z.L[:len(z.L)+1][len(z.L)] }

func fill(l []Cell) {
	for i := range l {
		l[i] = Cell{true, 99}
	}
}

// P4: a point is only read, and not behind its length.
func TestPointIsRead(t *testing.T) {
	whole := []int{1, 3, math.MaxInt}
	if ok, err := Has(of(2, [3]int{1, 2, 2}), whole[:2]); !ok || err != nil || !slices.Equal(whole, []int{1, 3, math.MaxInt}) {
		t.Error(ok, err, whole)
	}
}

// P2: the same answers, however many ask side by side.
func TestSideBySide(t *testing.T) {
	list := wild()
	ask := func() string {
		var s strings.Builder
		for i, a := range list {
			for _, c := range append(single(), double()...) {
				z, text, ok, err := c.of(a, list[(i+1)%len(list)], 1, 0, 3)
				fmt.Fprintln(&s, z, text, ok, err)
			}
		}
		return s.String()
	}
	want, got := ask(), make([]string, api.Workers)
	var all sync.WaitGroup
	for i := range got {
		all.Go(func() { got[i] = ask() })
	}
	all.Wait()
	for i := range got {
		if got[i] != want {
			t.Error("another answer beside others", i)
		}
	}
}

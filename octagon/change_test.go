package octagon

import (
	"slices"
	"testing"

	"raycone/api"
)

// P93: what was worked out by hand: what x told of others is left.
func TestForget(t *testing.T) {
	two := of(2, []int{1, 1, 3}, []int{1, -1, 2})
	for _, c := range []struct {
		o    Octagon
		x    int
		want Octagon
	}{
		{of(1, is(1, 0, 2, 4)...), 0, closed(1)}, {two, 0, closed(2)}, {two, 1, closed(2, []int{2, 0, 4})}, {of(4), 3, closed(4)}, {of(1, []int{0, 7}), 0, closed(1)}, {of(2, is(2, 1, 2, 4)...), 0, closed(2, is(2, 1, 2, 4)...)}, {of(2, is(2, 1, 2, 4)...), 1, closed(2)},
		{of(3, []int{1, 1, 0, 3}, []int{0, -1, 1, 2}), 1, closed(3, []int{1, 0, 1, 5})}, {of(3, []int{1, 1, 0, 3}, []int{0, -1, 1, 2}), 0, closed(3, []int{0, -1, 1, 2})},
		{of(2, []int{1, 1, -most}, []int{1, -1, -1}), 1, closed(2, []int{2, 0, -most})}, {of(2, []int{1, 1, most}, []int{1, -1, 2}), 1, closed(2)},
	} {
		if o, ok, err := Forget(c.o, c.x); !same(o, c.want) || !ok || err != nil {
			t.Error(c.o, c.x, o, ok, err, "want", c.want)
		}
	}
	for _, o := range []Octagon{none(2), of(2, []int{2, 0, 1}, []int{-2, 0, -1})} {
		if o, ok, err := Forget(o, 0); ok || err != nil || !isZero(o) {
			t.Error(o, ok, err)
		}
	}
}

// P93: what was worked out by hand: of another one, of x itself, of the opposites, and of a number alone.
func TestAssign(t *testing.T) {
	one := of(1, is(1, 0, 2, 4)...)
	// x0 is from 4 to 5, and x1 at most 1 more than x0.
	two := of(2, slices.Concat(is(2, 0, 4, 5), [][]int{{-1, 1, 1}})...)
	for _, c := range []struct {
		o             Octagon
		x, sign, y, c int
		want          Octagon
	}{
		{of(1), 0, 0, 0, 7, closed(1, is(1, 0, 7, 7)...)}, {of(1), 0, 1, 0, 7, closed(1)}, {of(1), 0, -1, 0, 7, closed(1)}, {one, 0, 1, 0, -1, closed(1, is(1, 0, 1, 3)...)}, {one, 0, -1, 0, -1, closed(1, is(1, 0, -5, -3)...)}, {one, 0, 0, 0, -1, closed(1, is(1, 0, -1, -1)...)}, {of(1, []int{0, 5}), 0, -1, 0, 2, closed(1)}, {of(1, []int{2, 5}), 0, -1, 0, 0, closed(1, []int{-2, 4})},
		{two, 1, 1, 0, 3, closed(2, slices.Concat(is(2, 0, 4, 5), is(2, 1, 7, 8), [][]int{{1, -1, -3}, {-1, 1, 3}, {1, 1, 13}, {-1, -1, -11}})...)},
		{two, 1, -1, 0, 3, closed(2, slices.Concat(is(2, 0, 4, 5), is(2, 1, -2, -1), [][]int{{1, 1, 3}, {-1, -1, -3}, {1, -1, 7}, {-1, 1, -5}})...)},
		{two, 0, 1, 1, 3, closed(2, []int{0, 2, 12}, []int{2, 0, 18}, []int{1, 1, 15}, []int{1, -1, 3}, []int{-1, 1, -3})},
		{two, 0, -1, 1, 3, closed(2, []int{0, 2, 12}, []int{-2, 0, 6}, []int{-1, 1, 9}, []int{1, 1, 3}, []int{-1, -1, -3})},
		{two, 0, 1, 0, 10, closed(2, slices.Concat(is(2, 0, 14, 15), [][]int{{0, 2, 12}, {-1, 1, -9}, {1, 1, 21}})...)},
		{two, 0, -1, 0, 10, closed(2, slices.Concat(is(2, 0, 5, 6), [][]int{{0, 2, 12}, {1, 1, 11}, {-1, 1, 1}})...)},
		{two, 1, -1, 1, 0, closed(2, slices.Concat(is(2, 0, 4, 5), [][]int{{0, -2, 12}, {-1, -1, 1}, {1, -1, 11}})...)},
		{two, 1, 1, 1, 0, closed(2, slices.Concat(is(2, 0, 4, 5), [][]int{{0, 2, 12}, {-1, 1, 1}, {1, 1, 11}})...)},
		// A number alone: whichever variable is named beside it.
		{two, 1, 0, 0, 3, closed(2, slices.Concat(is(2, 0, 4, 5), is(2, 1, 3, 3), [][]int{{1, 1, 8}, {-1, -1, -7}, {1, -1, 2}, {-1, 1, -1}})...)},
		{two, 1, 0, 1, 3, closed(2, slices.Concat(is(2, 0, 4, 5), is(2, 1, 3, 3), [][]int{{1, 1, 8}, {-1, -1, -7}, {1, -1, 2}, {-1, 1, -1}})...)},
		{two, 0, 0, 0, -1, closed(2, slices.Concat(is(2, 0, -1, -1), [][]int{{0, 2, 12}, {1, 1, 5}, {-1, 1, 7}})...)},
		{of(2, []int{0, 2, 5}), 0, 0, 1, 0, closed(2, slices.Concat(is(2, 0, 0, 0), [][]int{{0, 2, 4}, {1, 1, 2}, {-1, 1, 2}})...)},
		// Twice what is assigned: above MaxBound it is none, below minus MaxBound it is just that.
		{of(1), 0, 0, 0, most / 2, closed(1, is(1, 0, most/2, most/2)...)}, {of(1), 0, 0, 0, most/2 + 1, closed(1, []int{-2, -most})}, {of(1), 0, 0, 0, most, closed(1, []int{-2, -most})}, {of(1), 0, 0, 0, -most, closed(1, []int{2, -most})},
		{of(1, is(1, 0, most/2, most/2)...), 0, 1, 0, 1, closed(1, []int{-2, -most})}, {of(1, is(1, 0, most/2, most/2)...), 0, 1, 0, -most, closed(1, is(1, 0, -most/2, -most/2)...)}, {of(1, is(1, 0, most/2, most/2)...), 0, -1, 0, most, closed(1, is(1, 0, most/2, most/2)...)},
		// x0 is MaxBound at most, by way of x1 alone: MaxBound less, it can be told.
		{of(2, []int{1, 1, most}, []int{1, -1, most}), 0, 1, 0, -most, closed(2, []int{1, 1, 0}, []int{1, -1, 0}, []int{2, 0, 0})},
	} {
		if o, ok, err := Assign(c.o, c.x, c.sign, c.y, c.c); !same(o, c.want) || !ok || err != nil {
			t.Error(c, o, ok, err, "want", c.want)
		}
	}
	for y := range 2 {
		for sign := -1; sign <= 1; sign++ {
			if o, ok, err := Assign(none(2), 0, sign, y, 1); ok || err != nil || !isZero(o) {
				t.Error(sign, y, o, ok, err)
			}
		}
	}
}

// P93: what was worked out by hand: of two, of one, and of none.
func TestGuard(t *testing.T) {
	o := of(2, is(2, 0, 0, 3)...)
	for _, c := range []struct {
		o             Octagon
		a, x, b, y, c int
		want          Octagon
	}{
		{of(2), 1, 0, 1, 1, 3, closed(2, []int{1, 1, 3})}, {of(2), 1, 1, 1, 0, 3, closed(2, []int{1, 1, 3})}, {of(2), 1, 0, -1, 1, 3, closed(2, []int{1, -1, 3})}, {of(2), -1, 0, 1, 1, 3, closed(2, []int{-1, 1, 3})}, {of(2), -1, 0, -1, 1, 3, closed(2, []int{-1, -1, 3})}, {of(2), 1, 1, -1, 0, 3, closed(2, []int{-1, 1, 3})},
		{of(2), 1, 0, 0, 1, 3, closed(2, []int{2, 0, 6})}, {of(2), -1, 0, 0, 1, 3, closed(2, []int{-2, 0, 6})}, {of(2), 0, 0, 1, 1, 3, closed(2, []int{0, 2, 6})}, {of(2), 0, 0, -1, 1, 3, closed(2, []int{0, -2, 6})}, {of(2), 0, 1, 1, 0, -3, closed(2, []int{2, 0, -6})},
		{of(2), 0, 0, 0, 1, 0, closed(2)}, {o, 0, 1, 0, 0, most, closed(2, is(2, 0, 0, 3)...)}, {of(4), 1, 3, -1, 1, -2, closed(4, []int{0, -1, 0, 1, -2})},
		{o, 1, 0, 0, 1, 2, closed(2, is(2, 0, 0, 2)...)}, {o, 1, 0, 0, 1, 4, closed(2, is(2, 0, 0, 3)...)}, {o, -1, 0, 0, 1, -2, closed(2, is(2, 0, 2, 3)...)},
		{o, 1, 0, 1, 1, 1, closed(2, slices.Concat(is(2, 0, 0, 3), [][]int{{1, 1, 1}, {0, 2, 2}, {-1, 1, 1}})...)},
		{of(2, []int{1, 1, 3}), 1, 0, -1, 1, 2, closed(2, []int{1, 1, 3}, []int{1, -1, 2}, []int{2, 0, 4})},
		// Twice what one is at most: above MaxBound it is none, below minus MaxBound it is just that.
		{of(2), 1, 0, 0, 1, most / 2, closed(2, []int{2, 0, most})}, {of(2), 1, 0, 0, 1, most/2 + 1, closed(2)}, {of(2), 1, 0, 0, 1, most, closed(2)}, {of(2), 1, 0, 0, 1, -most, closed(2, []int{2, 0, -most})}, {of(2), 0, 0, -1, 1, -most, closed(2, []int{0, -2, -most})}, {of(2), 1, 0, 1, 1, most, closed(2, []int{1, 1, most})}, {of(2), 1, 0, 1, 1, -most, closed(2, []int{1, 1, -most})},
		// But it counts in full: x0 is minus MaxBound at most, so x1, MaxBound more at most, is 0 at most.
		{of(2, []int{-1, 1, most}), 1, 0, 0, 1, -most, closed(2, []int{-1, 1, most}, []int{2, 0, -most}, []int{0, 2, 0}, []int{1, 1, -most})},
	} {
		if o, ok, err := Guard(c.o, c.a, c.x, c.b, c.y, c.c); !same(o, c.want) || !ok || err != nil {
			t.Error(c, o, ok, err, "want", c.want)
		}
	}
	for _, c := range []struct {
		o             Octagon
		a, x, b, y, c int
	}{
		{o, 1, 0, 0, 1, -1}, {o, -1, 0, 0, 1, -4}, {o, 0, 0, 0, 1, -1}, {o, 0, 1, 0, 0, -most}, {none(2), 1, 0, 1, 1, 5}, {none(2), 0, 0, 0, 1, most}, {of(2, is(2, 0, most/2, most/2)...), -1, 0, 0, 1, -most}, {of(2, []int{-1, -1, -3}), 1, 0, 1, 1, 2}, {of(2, []int{1, -1, 0}, []int{-1, 1, 0}, []int{1, 1, 1}), -1, 0, -1, 1, -1},
	} {
		if o, ok, err := Guard(c.o, c.a, c.x, c.b, c.y, c.c); ok || err != nil || !isZero(o) {
			t.Error(c, o, ok, err)
		}
	}
}

// P94: what was worked out by hand: a is not tight, b is.
func TestWiden(t *testing.T) {
	three, wide := of(2, is(2, 0, 3, 3)...), of(2, is(2, 0, 3, 5)...)
	two := of(2, []int{1, 1, 3}, []int{1, -1, 2})
	for _, c := range []struct{ a, b, want Octagon }{
		{of(0), of(0), of(0)}, {of(1), closed(1), of(1)}, {closed(1), of(1), closed(1)}, {of(1, []int{0, 5}), of(1), of(1, []int{0, 5})},
		{three, wide, of(2, []int{-2, 0, -6})}, {wide, three, wide}, {three, three, three}, {three, of(2), of(2)}, {of(2), three, of(2)}, {wide, of(2, is(2, 0, 2, 5)...), of(2, []int{2, 0, 10})}, {closed(2, is(2, 0, 3, 3)...), wide, closed(2, []int{-2, 0, -6})},
		// b is tight first: so twice x0 is 4 at most, though no cell has it.
		{of(2, []int{2, 0, 4}), two, of(2, []int{2, 0, 4})}, {of(2, []int{2, 0, 3}), two, of(2)}, {of(1, []int{2, 4}), of(1, []int{2, 5}), of(1, []int{2, 4})},
		// a is not: an odd bound stays odd, and what it lacks, it does not get.
		{of(1, []int{2, 5}), of(1, []int{2, 5}), of(1, []int{2, 5})}, {two, of(2, []int{1, 1, 3}, []int{1, -1, 2}, []int{2, 0, 4}), two}, {two, of(2, []int{1, 1, 3}, []int{1, -1, 3}), of(2, []int{1, 1, 3})}, {of(2, []int{2, 0, 9}, []int{1, 1, 3}), two, of(2, []int{2, 0, 9}, []int{1, 1, 3})},
		// Without points, of whole numbers.
		{none(2), two, closed(2, []int{1, 1, 3}, []int{1, -1, 2}, []int{2, 0, 4})}, {of(2, []int{2, 0, 1}, []int{-2, 0, -1}), two, closed(2, []int{1, 1, 3}, []int{1, -1, 2}, []int{2, 0, 4})}, {two, none(2), two}, {two, of(2, []int{2, 0, 1}, []int{-2, 0, -1}), two}, {of(2, []int{0, 0, 3}), none(2), of(2, []int{0, 0, 3})}, {none(2), of(2, []int{0, 0, -1}), none(2)}, {of(2, []int{0, 0, -1}), none(2), of(2, []int{0, 0, -1})}, {none(2), of(2), closed(2)},
		// Beyond MaxBound.
		{of(2, []int{2, 0, -most}), of(2, []int{1, 1, -most}, []int{1, -1, -1}), of(2, []int{2, 0, -most})}, {of(2, []int{2, 0, most}), of(2, []int{1, 1, most}, []int{1, -1, 2}), of(2)}, {of(2, []int{2, 0, most}), of(2, []int{1, 1, most}, []int{1, -1, 1}), of(2, []int{2, 0, most})},
	} {
		if o, err := Widen(c.a, c.b); !same(o, c.want) || err != nil {
			t.Error(c.a, c.b, o, err, "want", c.want)
		}
	}
}

// P94: what was worked out by hand.
func TestBounds(t *testing.T) {
	two := of(2, []int{1, 1, 3}, []int{1, -1, 2})
	for _, c := range []struct {
		o    Octagon
		x    int
		want api.Interval
	}{
		{of(1), 0, api.Interval{Down: true, Up: true}}, {of(1, is(1, 0, -2, 4)...), 0, api.Interval{Low: -2, High: 4}}, {of(1, is(1, 0, 4, 4)...), 0, api.Interval{Low: 4, High: 4}}, {of(1, []int{-2, -8}), 0, api.Interval{Up: true, Low: 4}}, {of(1, []int{2, 5}, []int{-2, 5}), 0, api.Interval{Low: -2, High: 2}}, {of(1, []int{2, -5}), 0, api.Interval{Down: true, High: -3}}, {of(1, []int{-2, -5}), 0, api.Interval{Up: true, Low: 3}},
		{two, 0, api.Interval{Down: true, High: 2}}, {two, 1, api.Interval{Down: true, Up: true}}, {of(4, is(4, 3, 1, 2)...), 3, api.Interval{Low: 1, High: 2}}, {of(4, is(4, 3, 1, 2)...), 2, api.Interval{Down: true, Up: true}}, {of(4, is(4, 3, 1, 2)...), 0, api.Interval{Down: true, Up: true}},
		{of(1, is(1, 0, -most/2, most/2)...), 0, api.Interval{Low: -most / 2, High: most / 2}},
		// Up to MaxBound a number can be told, though twice that cannot.
		{of(2, []int{1, 1, most}, []int{1, -1, most}), 0, api.Interval{Down: true, High: most}}, {of(2, []int{-1, 1, most}, []int{-1, -1, most}), 0, api.Interval{Up: true, Low: -most}}, {of(2, []int{1, 1, -most}, []int{1, -1, -most}), 0, api.Interval{Down: true, High: -most}},
		// From above MaxBound on, and to below minus MaxBound: as chapter 6 tells such intervals.
		{of(3, []int{1, 1, 0, most}, []int{1, -1, 0, most}, []int{-1, 0, 1, 1}), 2, api.Interval{Down: true, Up: true}}, {of(3, []int{1, 1, 0, -most}, []int{1, -1, 0, -most}, []int{-1, 0, 1, -1}), 2, api.Interval{Down: true, High: -most}}, {of(3, []int{-1, 1, 0, -most}, []int{-1, -1, 0, -most}, []int{1, 0, -1, -1}), 2, api.Interval{Up: true, Low: most}},
	} {
		if got, ok, err := Bounds(c.o, c.x); got != c.want || !ok || err != nil {
			t.Error(c.o, c.x, got, ok, err, "want", c.want)
		}
	}
	for _, o := range []Octagon{none(2), of(2, []int{0, 2, 1}, []int{0, -2, -1})} {
		if got, ok, err := Bounds(o, 1); ok || err != nil || got != (api.Interval{}) {
			t.Error(got, ok, err)
		}
	}
}

package grid

import (
	"math/rand"
	"slices"
	"testing"

	"raycone/api"
)

// of rows that are written out.
func of(size int, l ...int) Grid {
	return Of(size, func(i, j int) int { return l[i*size+j] })
}

func same(g, h Grid) bool { return g.size == h.size && slices.Equal(g.most, h.most) }

func TestOf(t *testing.T) {
	g := Of(3, func(i, j int) int { return 10*i + j })
	if !slices.Equal(g.most, []int{0, 1, 2, 10, 11, 12, 20, 21, 22}) || g.Size() != 3 || g.At(1, 2) != 12 || g.At(2, 1) != 21 {
		t.Error(g)
	}
	if g := Of(0, func(i, j int) int { return 1 }); g.Size() != 0 || len(g.most) != 0 {
		t.Error(g)
	}
}

func TestWith(t *testing.T) {
	g := of(2, 1, 2, 3, 4).With(of(2, 10, 20, 30, 40), func(x, y int) int { return y - x })
	if !same(g, of(2, 9, 18, 27, 36)) {
		t.Error(g)
	}
}

func TestGuarded(t *testing.T) {
	g := of(2, 1, 2, None, 4)
	for _, c := range []struct {
		i, j, most int
		want       Grid
	}{
		{0, 1, 1, of(2, 1, 1, None, 4)}, {0, 1, 3, g}, {1, 0, 7, of(2, 1, 2, 7, 4)}, {1, 1, -4, of(2, 1, 2, None, -4)}, {1, 0, None, g},
	} {
		if got := g.Guarded(c.i, c.j, c.most); !same(got, c.want) || !same(g, of(2, 1, 2, None, 4)) {
			t.Error(c, got, g)
		}
	}
}

func TestSound(t *testing.T) {
	for _, c := range []struct {
		g    Grid
		want bool
	}{
		{Grid{}, true}, {of(1, 0), true}, {of(1, None), true}, {of(1, -1), false}, {of(2, 0, -5, -6, 0), true}, {of(2, 0, 0, 0, -1), false}, {of(2, -1, 0, 0, 3), false},
	} {
		if c.g.Sound() != c.want {
			t.Error(c)
		}
	}
}

func TestKept(t *testing.T) {
	for _, c := range [][3]int{{3, 3, 3}, {3, 2, 3}, {3, 4, None}, {3, None, None}, {None, 3, None}, {None, None, None}, {-2, -3, -2}, {-3, -2, None}} {
		if got := Kept(c[0], c[1]); got != c[2] {
			t.Error(c, got)
		}
	}
}

func TestSpan(t *testing.T) {
	m := api.MaxBound
	for _, c := range []struct {
		below, above int
		want         api.Interval
	}{
		{2, 5, api.Interval{Low: -2, High: 5}}, {-2, 5, api.Interval{Low: 2, High: 5}}, {None, 5, api.Interval{Down: true, High: 5}}, {2, None, api.Interval{Up: true, Low: -2}}, {None, None, api.Interval{Down: true, Up: true}},
		{m, m, api.Interval{Low: -m, High: m}}, {m + 1, m + 1, api.Interval{Down: true, Up: true}}, {-m - 1, m + 2, api.Interval{Up: true, Low: m}}, {m + 2, -m - 1, api.Interval{Down: true, High: -m}},
	} {
		if got := Span(c.below, c.above); got != c.want {
			t.Error(c, got)
		}
	}
}

func TestWithin(t *testing.T) {
	g := of(2, 0, 5, None, 0)
	for _, c := range []struct {
		h        Grid
		in, over bool
	}{
		{g, true, true}, {of(2, 0, 6, None, 0), true, false}, {of(2, 0, 4, None, 0), false, true}, {of(2, 0, 5, 1000, 0), false, true}, {of(2, 0, None, None, 0), true, false}, {of(2, 0, 4, None, 1), false, false},
	} {
		if g.Within(c.h) != c.in || c.h.Within(g) != c.over {
			t.Error(c)
		}
	}
}

func TestPlus(t *testing.T) {
	for _, c := range [][3]int{{1, 2, 3}, {-5, 2, -3}, {None, 2, None}, {-2, None, None}, {None, None, None}} {
		if Plus(c[0], c[1]) != c[2] {
			t.Error(c, Plus(c[0], c[1]))
		}
	}
}

func TestTold(t *testing.T) {
	for _, c := range []struct {
		bound int
		has   bool
		most  int
	}{
		{0, true, 0}, {-7, true, -7}, {api.MaxBound, true, api.MaxBound}, {api.MaxBound + 1, false, 0}, {None, false, 0}, {-api.MaxBound, true, -api.MaxBound}, {-api.MaxBound - 1, true, -api.MaxBound}, {-5 * api.MaxBound, true, -api.MaxBound},
	} {
		if has, most := Told(c.bound); has != c.has || most != c.most {
			t.Error(c, has, most)
		}
	}
	type cell struct {
		has  bool
		most int
	}
	l := Cells(of(2, 0, None, -2*api.MaxBound, 3), func(has bool, most int) cell { return cell{has, most} })
	if !slices.Equal(l, []cell{{true, 0}, {false, 0}, {true, -api.MaxBound}, {true, 3}}) {
		t.Error(l)
	}
}

func TestClosed(t *testing.T) {
	for _, c := range []struct{ g, want Grid }{
		{Grid{}, Grid{}},
		{of(1, None), of(1, 0)}, {of(1, 4), of(1, 0)},
		{of(2, None, None, None, None), of(2, 0, None, None, 0)},
		{of(2, None, 3, -3, None), of(2, 0, 3, -3, 0)},
		{of(3, None, 3, None, None, None, 2, None, None, None), of(3, 0, 3, 5, None, 0, 2, None, None, 0)},
		// The shorter way counts, whichever it is.
		{of(3, 0, 3, 4, None, 0, 2, None, None, 0), of(3, 0, 3, 4, None, 0, 2, None, None, 0)},
		// What is beyond MaxBound is exact.
		{of(3, 0, api.MaxBound, None, None, 0, api.MaxBound, None, None, 0), of(3, 0, api.MaxBound, 2*api.MaxBound, None, 0, api.MaxBound, None, None, 0)},
	} {
		if got, ok := c.g.Closed(); !ok || !same(got, c.want) {
			t.Error(c.g, got, ok, "want", c.want)
		}
	}
}

func TestClosedNone(t *testing.T) {
	m := api.MaxBound
	for _, g := range []Grid{
		of(1, -1), of(2, 0, 0, -1, 0), of(2, 0, None, None, -1), of(3, 0, 1, None, None, 0, 1, -3, None, 0),
		// As small as may be, all round: what goes round and round must not become great.
		Of(5, func(i, j int) int { return -m }), Of(8, func(i, j int) int { return -m }),
		Of(8, func(i, j int) int {
			if j == (i+1)%8 {
				return -m
			}
			return None
		}),
	} {
		if got, ok := g.Closed(); ok || !same(got, Grid{}) {
			t.Error(g, got, ok)
		}
	}
}

// What is closed has no shorter way left, and closing it again changes nothing.
func TestClosedAlways(t *testing.T) {
	r := rand.New(rand.NewSource(8))
	some := 0
	for range 20000 {
		size := 1 + r.Intn(8)
		g := Of(size, func(i, j int) int {
			if r.Intn(3) == 0 {
				return None
			}
			return r.Intn(40) - 8
		})
		before := slices.Clone(g.most)
		c, ok := g.Closed()
		if !slices.Equal(g.most, before) {
			t.Fatal("changed", g, before)
		}
		if !ok {
			continue
		}
		some++
		again, ok := c.Closed()
		if !ok || !same(again, c) || !c.Within(g) {
			t.Fatal(g, c, again, ok)
		}
		for i := range size {
			for j := range size {
				for k := range size {
					if c.At(i, j) > Plus(c.At(i, k), c.At(k, j)) {
						t.Fatal(g, c, i, j, k)
					}
				}
			}
		}
	}
	if some < 1000 {
		t.Error("too few have numbers", some)
	}
}

package zone

import (
	"math/rand"
	"slices"
	"testing"

	"raycone/api"
)

// Each answer is held against points that are gone through one by one, up to window in each variable. All bounds are so small that a difference above edge must go on and on.
const (
	small  = 2
	edge   = 9
	window = 16
)

// points of two variables: all of the window that are asked for.
func points(is func(p [2]int) bool) [][2]int {
	var l [][2]int
	for x := -window; x <= window; x++ {
		for y := -window; y <= window; y++ {
			if p := [2]int{x, y}; is(p) {
				l = append(l, p)
			}
		}
	}
	return l
}

func at(p [2]int, i int) int {
	if i == 0 {
		return 0
	}
	return p[i-1]
}

// holds: what the promise says of each cell.
func holds(z Zone, p [2]int) bool {
	for k, c := range z.L {
		if c.Has && at(p, k%3)-at(p, k/3) > c.Most {
			return false
		}
	}
	return true
}

func pointsOf(z Zone) [][2]int { return points(func(p [2]int) bool { return holds(z, p) }) }

// leastOf points: each bound is the greatest difference.
func leastOf(l [][2]int) (Zone, bool) {
	if len(l) == 0 {
		return Zone{}, false
	}
	z := of(2)
	for k := range z.L {
		far := -2 * window
		for _, p := range l {
			far = max(far, at(p, k%3)-at(p, k/3))
		}
		if far <= edge {
			z.L[k] = Cell{true, far}
		}
	}
	return z, true
}

// eachSmall: all zones of two variables of which each bound between two is small, or none.
func eachSmall(do func(z Zone)) {
	places := []int{1, 2, 3, 5, 6, 7}
	var fill func(z Zone, k int)
	fill = func(z Zone, k int) {
		if k == len(places) {
			do(Zone{z.N, slices.Clone(z.L)})
			return
		}
		for n := -small; n <= small+1; n++ {
			z.L[places[k]] = Cell{}
			if n <= small {
				z.L[places[k]] = Cell{true, n}
			}
			fill(z, k+1)
		}
	}
	fill(of(2), 0)
}

// aSmall zone of two variables, by chance: with few bounds, or with many; seldom one of a variable with itself.
func aSmall(r *rand.Rand) Zone {
	z, few := of(2), 1+r.Intn(4)
	for k := range z.L {
		switch {
		case k%4 == 0 && r.Intn(60) == 0:
			z.L[k] = Cell{true, r.Intn(4) - 1}
		case k%4 != 0 && r.Intn(few) == 0:
			z.L[k] = Cell{true, r.Intn(2*small+1) - small}
		}
	}
	return z
}

// check what a call answers against the points that it should have.
func check(t *testing.T, name string, given any, z Zone, ok bool, err error, l [][2]int) {
	t.Helper()
	if want, some := leastOf(l); !same(z, want) || ok != some || err != nil {
		t.Fatal(name, given, z, ok, err, "want", want, some)
	}
}

// P81, P84, P85: of each small zone, all cells are the greatest differences, so they are reached.
func TestCloseAlways(t *testing.T) {
	eachSmall(func(z Zone) {
		l := pointsOf(z)
		c, ok, err := Close(z)
		check(t, "Close", z, c, ok, err, l)
		for x := 1; x <= 2; x++ {
			var want api.Interval
			if len(l) > 0 {
				high, low := c.L[x], c.L[3*x]
				want = api.Interval{Down: !low.Has, Up: !high.Has, Low: -low.Most, High: high.Most}
			}
			if got, some, err := Bounds(z, x); got != want || some != ok || err != nil {
				t.Fatal("Bounds", z, x, got, some, err, "want", want)
			}
		}
	})
}

// P80: Has is asked point by point.
func TestHasAlways(t *testing.T) {
	r := rand.New(rand.NewSource(80))
	for range 300 {
		z := aSmall(r)
		points(func(p [2]int) bool {
			if ok, err := Has(z, p[:]); ok != holds(z, p) || err != nil {
				t.Fatal(z, p, ok, err)
			}
			return false
		})
	}
}

// P82, P85: Join is the least, Meet has just the points of both.
func TestLatticeAlways(t *testing.T) {
	r := rand.New(rand.NewSource(82))
	for range 5000 {
		a, b := aSmall(r), aSmall(r)
		given := [2]Zone{a, b}
		as, bs := pointsOf(a), pointsOf(b)
		both := points(func(p [2]int) bool { return holds(a, p) && holds(b, p) })
		z, ok, err := Meet(a, b)
		check(t, "Meet", given, z, ok, err, both)
		if in, err := Within(a, b); in != (len(both) == len(as)) || err != nil {
			t.Fatal("Within", a, b, in, err)
		}
		if z, err = Join(a, b); len(as)+len(bs) == 0 {
			if err != api.ErrEmpty || !isZero(z) {
				t.Fatal("Join", a, b, z, err)
			}
			continue
		}
		check(t, "Join", given, z, true, err, slices.Concat(as, bs))
	}
}

// P83: each point is changed as the promise says; what comes is the least zone that has them.
func TestChangesAlways(t *testing.T) {
	r := rand.New(rand.NewSource(83))
	for range 5000 {
		z, x, y, c := aSmall(r), 1+r.Intn(2), r.Intn(3), r.Intn(5)-2
		given := []any{z, x, y, c}
		l := pointsOf(z)
		got, ok, err := Assign(z, x, y, c)
		check(t, "Assign", given, got, ok, err, changed(l, x, func(p [2]int) int { return at(p, y) + c }))
		anything := slices.Concat(changed(l, x, func(p [2]int) int { return -3 * window }), changed(l, x, func(p [2]int) int { return 3 * window }))
		got, ok, err = Forget(z, x)
		check(t, "Forget", given, got, ok, err, anything)
		i := r.Intn(3)
		got, ok, err = Guard(z, i, y, c)
		check(t, "Guard", append(given, i), got, ok, err, points(func(p [2]int) bool { return holds(z, p) && at(p, y)-at(p, i) <= c }))
	}
}

// changed points: of each, the variable x.
func changed(l [][2]int, x int, to func(p [2]int) int) [][2]int {
	out := slices.Clone(l)
	for k := range out {
		out[k][x-1] = to(l[k])
	}
	return out
}

// P84, P85: each bound of a is there or not, as the points of b say; what comes has the points of both.
func TestWidenAlways(t *testing.T) {
	r := rand.New(rand.NewSource(84))
	for range 5000 {
		a, b := aSmall(r), aSmall(r)
		least, some := leastOf(pointsOf(b))
		want := Zone{N: 2, L: slices.Clone(a.L)}
		switch {
		case !some:
		case len(pointsOf(a)) == 0:
			want = least
		default:
			for k, c := range least.L {
				if a.L[k].Has && (!c.Has || c.Most > a.L[k].Most) {
					want.L[k] = Cell{}
				}
			}
		}
		z, err := Widen(a, b)
		hasA, _ := Within(a, z)
		hasB, _ := Within(b, z)
		if !same(z, want) || err != nil || !hasA || !hasB {
			t.Fatal(a, b, z, err, "want", want)
		}
	}
}

// P85: whatever it is widened by, it changes at most so often as it has cells, and once more.
func TestWidenEnds(t *testing.T) {
	r := rand.New(rand.NewSource(85))
	for range 2000 {
		n := r.Intn(5)
		a, changes := great(r, n), 0
		for range 60 {
			b := great(r, n)
			z, err := Widen(a, b)
			if err != nil {
				t.Fatal(a, b, err)
			}
			if !same(z, a) {
				changes++
			}
			a = z
		}
		if changes > (n+1)*(n+1)+1 {
			t.Error(n, changes)
		}
	}
}

// P85: it can change often: first it gets points, then one bound after the other goes, and then no more.
func TestWidenSlowly(t *testing.T) {
	a := none(1)
	for _, c := range []struct{ b, want Zone }{
		{none(1), none(1)}, {of(1, is(1, 0, 0)...), closed(1, is(1, 0, 0)...)}, {none(1), closed(1, is(1, 0, 0)...)},
		{of(1, is(1, 0, 1)...), closed(1, [3]int{1, 0, 0})}, {of(1, is(1, 5, 9)...), closed(1, [3]int{1, 0, 0})}, {of(1, is(1, -1, 0)...), closed(1)}, {of(1), closed(1)}, {none(1), closed(1)},
	} {
		z, err := Widen(a, c.b)
		if !same(z, c.want) || err != nil {
			t.Error(a, c.b, z, err, "want", c.want)
		}
		a = z
	}
}

package octagon

import (
	"math/rand"
	"slices"
	"testing"

	"raycone/api"
	"raycone/zone"
)

// space: points of n variables up to window in each, gone through one by one, and what each sum that a cell may bound is at each of them. Sums above edge go on and on: the octagons' bounds are too small for them.
type space struct {
	n, edge int
	sums    [][]int // the kinds of sums: how often each variable is in it
	kinds   []int   // cell by cell: which of the sums it bounds
	points  [][]int
	values  [][]int // point by point: what each sum is
}

func spaceOf(n, window, edge int) *space {
	s := &space{n: n, edge: edge}
	for k := range 4 * n * n {
		l := sum(n, k/(2*n), k%(2*n))
		kind := slices.IndexFunc(s.sums, func(m []int) bool { return slices.Equal(l, m) })
		if kind < 0 {
			kind, s.sums = len(s.sums), append(s.sums, l)
		}
		s.kinds = append(s.kinds, kind)
	}
	var walk func(p []int)
	walk = func(p []int) {
		if len(p) == n {
			s.points = append(s.points, slices.Clone(p))
			s.values = append(s.values, s.valuesAt(p))
			return
		}
		for x := -window; x <= window; x++ {
			walk(append(p, x))
		}
	}
	walk(nil)
	return s
}

func (s *space) valuesAt(p []int) []int {
	l := make([]int, len(s.sums))
	for k, m := range s.sums {
		for x, times := range m {
			l[k] += times * p[x]
		}
	}
	return l
}

// of: all points that an octagon has, as what each sum is there.
func (s *space) of(o Octagon) [][]int {
	bounds := make([]Cell, len(s.sums))
	for k, c := range o.L {
		bounds[s.kinds[k]] = c
	}
	var l [][]int
	for _, v := range s.values {
		if !slices.ContainsFunc(s.kinds, func(kind int) bool { return bounds[kind].Has && v[kind] > bounds[kind].Most }) {
			l = append(l, v)
		}
	}
	return l
}

// at: the variable x of a point that is told by sums.
func (s *space) at(v []int, x int) int {
	k := slices.IndexFunc(s.sums, func(m []int) bool { return m[x] == 2 })
	return v[k] / 2
}

// changed points: of each, the variable x.
func (s *space) changed(l [][]int, x int, to func(v []int) int) [][]int {
	var out [][]int
	for _, v := range l {
		p := make([]int, s.n)
		for y := range p {
			p[y] = s.at(v, y)
		}
		p[x] = to(v)
		out = append(out, s.valuesAt(p))
	}
	return out
}

// least octagon of points: each bound is the greatest sum.
func (s *space) least(l [][]int) (Octagon, bool) {
	if len(l) == 0 {
		return Octagon{}, false
	}
	far := slices.Clone(l[0])
	for _, v := range l {
		for k := range far {
			far[k] = max(far[k], v[k])
		}
	}
	o := of(s.n)
	for k, kind := range s.kinds {
		if far[kind] <= s.edge {
			o.L[k] = Cell{true, far[kind]}
		}
	}
	return o, true
}

// check what a call answers against the points that it should have.
func (s *space) check(t *testing.T, name string, given any, o Octagon, ok bool, err error, l [][]int) {
	t.Helper()
	if want, some := s.least(l); !same(o, want) || ok != some || err != nil {
		t.Fatal(name, given, o, ok, err, "want", want, some)
	}
}

// with: the octagon of bounds, one a sum.
func (s *space) with(bounds []Cell) Octagon {
	o := of(s.n)
	for k, kind := range s.kinds {
		o.L[k] = bounds[kind]
	}
	return o
}

// small octagon by chance: with few bounds, or with many; seldom one of a variable with itself.
func (s *space) small(r *rand.Rand, size int) Octagon {
	bounds, few := make([]Cell, len(s.sums)), 1+r.Intn(4)
	for k, m := range s.sums {
		switch self := !slices.ContainsFunc(m, func(times int) bool { return times != 0 }); {
		case self && r.Intn(60) == 0:
			bounds[k] = Cell{true, r.Intn(4) - 1}
		case !self && r.Intn(few) == 0:
			bounds[k] = Cell{true, r.Intn(2*size+1) - size}
		}
	}
	return s.with(bounds)
}

// checkClose: all cells are the greatest sums of whole points, so they are reached.
func (s *space) checkClose(t *testing.T, o Octagon) {
	t.Helper()
	l := s.of(o)
	c, ok, err := Close(o)
	s.check(t, "Close", o, c, ok, err, l)
	for x := range s.n {
		var want api.Interval
		if ok {
			high, low := c.L[(2*x+1)*2*s.n+2*x], c.L[2*x*2*s.n+2*x+1]
			want = api.Interval{Down: !low.Has, Up: !high.Has, Low: -low.Most / 2, High: high.Most / 2}
		}
		if got, some, err := Bounds(o, x); got != want || some != ok || err != nil {
			t.Fatal("Bounds", o, x, got, some, err, "want", want)
		}
	}
}

// P91, P94, P95: of each octagon of two variables of which each bound is from -1 to 1, or none.
func TestEachSmall(t *testing.T) {
	s := spaceOf(2, 9, 3)
	bounds := make([]Cell, len(s.sums))
	var fill func(k int)
	fill = func(k int) {
		if k == len(bounds) {
			s.checkClose(t, s.with(bounds))
			return
		}
		for n := -1; n <= 2; n++ {
			if bounds[k] = (Cell{true, n}); n == 2 {
				bounds[k] = Cell{}
			}
			// Of a variable with itself: never.
			if slices.Equal(s.sums[k], []int{0, 0}) && n < 2 {
				continue
			}
			fill(k + 1)
		}
	}
	fill(0)
}

// P91, P94, P95: of two variables with greater bounds, and of three.
func TestCloseAlways(t *testing.T) {
	r := rand.New(rand.NewSource(91))
	two, three := spaceOf(2, 30, 9), spaceOf(3, 14, 5)
	for range 5000 {
		two.checkClose(t, two.small(r, 3))
	}
	for range 1500 {
		three.checkClose(t, three.small(r, 1))
	}
}

// P90: Has is asked point by point.
func TestHasAlways(t *testing.T) {
	r := rand.New(rand.NewSource(90))
	s := spaceOf(2, 5, 9)
	for range 500 {
		o := s.small(r, 3)
		l := s.of(o)
		for k, p := range s.points {
			want := slices.ContainsFunc(l, func(v []int) bool { return slices.Equal(v, s.values[k]) })
			if ok, err := Has(o, p); ok != want || err != nil {
				t.Fatal(o, p, ok, err)
			}
		}
	}
}

// P92, P95: Join is the least, Meet has just the points of both.
func (s *space) checkPair(t *testing.T, a, b Octagon) {
	t.Helper()
	given := [2]Octagon{a, b}
	as, bs := s.of(a), s.of(b)
	var both [][]int
	for _, v := range as {
		if s.in(v, b) {
			both = append(both, v)
		}
	}
	o, ok, err := Meet(a, b)
	s.check(t, "Meet", given, o, ok, err, both)
	if in, err := Within(a, b); in != (len(both) == len(as)) || err != nil {
		t.Fatal("Within", a, b, in, err)
	}
	if o, err = Join(a, b); len(as)+len(bs) > 0 {
		s.check(t, "Join", given, o, true, err, slices.Concat(as, bs))
	} else if err != api.ErrEmpty || !isZero(o) {
		t.Fatal("Join", a, b, o, err)
	}
	s.checkWiden(t, a, b, len(as) > 0, bs)
}

// in: is a point, told by sums, one of the octagon's?
func (s *space) in(v []int, o Octagon) bool {
	for k, c := range o.L {
		if c.Has && v[s.kinds[k]] > c.Most {
			return false
		}
	}
	return true
}

// P94: each bound of a is there or not, as the points of b say; what comes has the points of both.
func (s *space) checkWiden(t *testing.T, a, b Octagon, some bool, bs [][]int) {
	t.Helper()
	want := Octagon{N: a.N, L: slices.Clone(a.L)}
	switch least, more := s.least(bs); {
	case more && !some:
		want = least
	case more:
		for k, c := range least.L {
			if a.L[k].Has && (!c.Has || c.Most > a.L[k].Most) {
				want.L[k] = Cell{}
			}
		}
	}
	o, err := Widen(a, b)
	hasA, _ := Within(a, o)
	hasB, _ := Within(b, o)
	if !same(o, want) || err != nil || !hasA || !hasB {
		t.Fatal("Widen", a, b, o, err, "want", want)
	}
}

func TestPairsAlways(t *testing.T) {
	r := rand.New(rand.NewSource(92))
	two, three := spaceOf(2, 30, 9), spaceOf(3, 12, 5)
	for range 4000 {
		two.checkPair(t, two.small(r, 3), two.small(r, 3))
	}
	for range 500 {
		three.checkPair(t, three.small(r, 1), three.small(r, 1))
	}
}

// P93: each point is changed as the promise says; what comes is the least octagon that has them.
func (s *space) checkChanges(t *testing.T, r *rand.Rand, o Octagon, size int) {
	t.Helper()
	x, y, sign, c := r.Intn(s.n), r.Intn(s.n), r.Intn(3)-1, r.Intn(2*size+1)-size
	given := []any{o, x, sign, y, c}
	l := s.of(o)
	got, ok, err := Assign(o, x, sign, y, c)
	s.check(t, "Assign", given, got, ok, err, s.changed(l, x, func(v []int) int { return sign*s.at(v, y) + c }))
	anything := slices.Concat(s.changed(l, x, func(v []int) int { return -999 }), s.changed(l, x, func(v []int) int { return 999 }))
	got, ok, err = Forget(o, x)
	s.check(t, "Forget", given, got, ok, err, anything)
	if x == y {
		return
	}
	a := r.Intn(3) - 1
	out := slices.DeleteFunc(slices.Clone(l), func(v []int) bool { return a*s.at(v, x)+sign*s.at(v, y) > c })
	got, ok, err = Guard(o, a, x, sign, y, c)
	s.check(t, "Guard", append(given, a), got, ok, err, out)
}

func TestChangesAlways(t *testing.T) {
	r := rand.New(rand.NewSource(93))
	two, three := spaceOf(2, 36, 12), spaceOf(3, 15, 7)
	for range 4000 {
		two.checkChanges(t, r, two.small(r, 3), 2)
	}
	for range 300 {
		three.checkChanges(t, r, three.small(r, 1), 1)
	}
}

// P94, P95: a zone and its octagon have the same points.
func TestOfZoneAlways(t *testing.T) {
	r := rand.New(rand.NewSource(94))
	s := spaceOf(2, 16, 9)
	for range 3000 {
		z, few := zone.Zone{N: 2, L: make([]zone.Cell, 9)}, 1+r.Intn(4)
		for k := range z.L {
			if k%4 != 0 && r.Intn(few) == 0 || r.Intn(90) == 0 {
				z.L[k] = zone.Cell{Has: true, Most: r.Intn(5) - 2}
			}
		}
		o, ok, err := OfZone(z)
		var l [][]int
		for k, p := range s.points {
			in, _ := zone.Has(z, p)
			if in {
				l = append(l, s.values[k])
			}
			if has, _ := Has(o, p); ok && has != in {
				t.Fatal(z, o, p, in, has)
			}
		}
		s.check(t, "OfZone", z, o, ok, err, l)
	}
}

// P95: the octagon of a set of points lies within its zone, and the zone within its intervals; all tell the same of each variable.
func TestOfPoints(t *testing.T) {
	r := rand.New(rand.NewSource(95))
	for range 2000 {
		n := 1 + r.Intn(4)
		var o Octagon
		var z zone.Zone
		low, high := make([]int, n), make([]int, n)
		for k := range 1 + r.Intn(4) {
			point, place := closed(n), zone.Zone{N: n, L: make([]zone.Cell, (n+1)*(n+1))}
			for x := range n {
				v := r.Intn(41) - 20
				point, _, _ = Assign(point, x, 0, 0, v)
				place, _, _ = zone.Assign(place, x+1, 0, v)
				if low[x], high[x] = min(low[x], v), max(high[x], v); k == 0 {
					low[x], high[x] = v, v
				}
			}
			if k == 0 {
				o, z = point, place
				continue
			}
			o, _ = Join(o, point)
			z, _ = zone.Join(z, place)
		}
		box := zone.Zone{N: n, L: make([]zone.Cell, (n+1)*(n+1))}
		for x := range n {
			box.L[x+1], box.L[(x+1)*(n+1)] = zone.Cell{Has: true, Most: high[x]}, zone.Cell{Has: true, Most: -low[x]}
			want := api.Interval{Low: low[x], High: high[x]}
			got, _, err := Bounds(o, x)
			other, _, wrong := zone.Bounds(z, x+1)
			if got != want || other != want || err != nil || wrong != nil {
				t.Fatal(o, z, x, got, other, want)
			}
		}
		around, _, _ := OfZone(z)
		in, err := Within(o, around)
		over, wrong := zone.Within(z, box)
		if !in || !over || err != nil || wrong != nil {
			t.Fatal(o, z, in, over, err, wrong)
		}
	}
}

// P84, P94: whatever it is widened by, it changes at most so often as it has cells, and once more.
func TestWidenEnds(t *testing.T) {
	r := rand.New(rand.NewSource(96))
	for range 1000 {
		n := 1 + r.Intn(4)
		a, changes := great(r, n), 0
		for range 80 {
			b := great(r, n)
			o, err := Widen(a, b)
			if err != nil {
				t.Fatal(a, b, err)
			}
			if !same(o, a) {
				changes++
			}
			a = o
		}
		if changes > 4*n*n+1 {
			t.Error(n, changes)
		}
	}
}

package interval

import (
	"math/big"
	"math/rand"
	"slices"
	"testing"

	"raycone/api"
)

// Each answer is held against numbers that are gone through one by one: of what has no bound, up to window. All bounds are so small that what comes beyond edge must go on and on.
const (
	small  = 4
	edge   = 40
	window = 200
)

// smalls: all intervals whose bounds are small.
func smalls() []api.Interval {
	l := []api.Interval{{Down: true, Up: true}}
	for low := -small; low <= small; low++ {
		l = append(l, api.Interval{Up: true, Low: low}, api.Interval{Down: true, High: low})
		for high := low; high <= small; high++ {
			l = append(l, api.Interval{Low: low, High: high})
		}
	}
	return l
}

// numbers of an interval, within the window.
func numbers(a api.Interval) []int {
	var l []int
	for n := -window; n <= window; n++ {
		if (a.Down || n >= a.Low) && (a.Up || n <= a.High) {
			l = append(l, n)
		}
	}
	return l
}

// span of numbers: the least and the greatest.
type span struct {
	some      bool
	low, high int
}

func (s *span) take(n int) {
	if !s.some {
		*s = span{true, n, n}
	}
	s.low, s.high = min(s.low, n), max(s.high, n)
}

// least interval that has them.
func (s *span) least() (api.Interval, bool) {
	a := api.Interval{Low: s.low, High: s.high}
	if s.low < -edge {
		a.Down, a.Low = true, 0
	}
	if s.high > edge {
		a.Up, a.High = true, 0
	}
	return a, s.some
}

// eachPair of small intervals, with their numbers.
func eachPair(do func(a, b api.Interval, as, bs []int)) {
	list := smalls()
	all := make([][]int, len(list))
	for i, a := range list {
		all[i] = numbers(a)
	}
	for i, a := range list {
		for j, b := range list {
			do(a, b, all[i], all[j])
		}
	}
}

// checkLeast holds a call against the least interval that has what each pair makes.
func checkLeast(t *testing.T, c call, a, b api.Interval, made func(take func(n int))) {
	t.Helper()
	var s span
	made(s.take)
	want, is := s.least()
	if x, _, ok, err := c.of(a, b); x != want || ok != is || err != nil {
		t.Error(c.name, a, b, x, ok, err, "want", want, is)
	}
}

// P61, P65: Join is the least, Meet the greatest.
func TestLatticeAlways(t *testing.T) {
	eachPair(func(a, b api.Interval, as, bs []int) {
		checkLeast(t, one("Join", Join), a, b, func(take func(n int)) {
			for _, n := range slices.Concat(as, bs) {
				take(n)
			}
		})
		inB := 0
		checkLeast(t, some("Meet", Meet), a, b, func(take func(n int)) {
			for _, n := range as {
				if _, found := slices.BinarySearch(bs, n); found {
					take(n)
					inB++
				}
			}
		})
		if is, err := Within(a, b); is != (inB == len(as)) || err != nil {
			t.Error("Within", a, b, is, err)
		}
	})
}

// P61: Has is asked number by number.
func TestHasAlways(t *testing.T) {
	for _, a := range smalls() {
		l := numbers(a)
		for n := -window; n <= window; n++ {
			if _, want := slices.BinarySearch(l, n); Has(a, n) != want {
				t.Error(a, n)
			}
		}
	}
}

// P62, P65: sums, differences, products, and quotients: all are the least, as those of b on both sides of 0 may be.
func TestDoneAlways(t *testing.T) {
	for _, c := range []struct {
		call
		made func(x, y int) (int, bool)
	}{
		{one("Add", Add), func(x, y int) (int, bool) { return x + y, true }},
		{one("Sub", Sub), func(x, y int) (int, bool) { return x - y, true }},
		{one("Mul", Mul), func(x, y int) (int, bool) { return x * y, true }},
		{some("Div", Div), func(x, y int) (int, bool) {
			if y == 0 {
				return 0, false
			}
			return x / y, true
		}},
	} {
		eachPair(func(a, b api.Interval, as, bs []int) {
			checkLeast(t, c.call, a, b, func(take func(n int)) {
				for _, x := range as {
					for _, y := range bs {
						if n, ok := c.made(x, y); ok {
							take(n)
						}
					}
				}
			})
		})
	}
}

// P62, P65: remainders: the least by one number; else all, and within what the promise allows.
func TestRemAlways(t *testing.T) {
	eachPair(func(a, b api.Interval, as, bs []int) {
		var s span
		for _, x := range as {
			for _, y := range bs {
				if y != 0 {
					s.take(x % y)
				}
			}
		}
		x, ok, err := Rem(a, b)
		if ok != s.some || err != nil {
			t.Error(a, b, x, ok, err)
		}
		if want, _ := s.least(); len(bs) == 1 && x != want {
			t.Error(a, b, x, "want", want)
		}
		if s.some && (!Has(x, s.low) || !Has(x, s.high) || goesBeyond(x, a, b)) {
			t.Error(a, b, x, s)
		}
	})
}

// goesBeyond tells whether remainders x have numbers not less in size than all of b, or of signs that a does not have.
func goesBeyond(x, a, b api.Interval) bool {
	size := max(-b.Low, b.High)
	switch {
	case !b.Down && !b.Up && (x.Down || x.Up || x.Low <= -size || x.High >= size):
		return true
	case !a.Down && a.Low >= 0 && (x.Down || x.Low < 0):
		return true
	}
	return !a.Up && a.High <= 0 && (x.Up || x.High > 0)
}

// P64, P65: each pair that stands so is looked for.
func TestRefineAlways(t *testing.T) {
	stands := map[string]func(x, y int) bool{
		"<":  func(x, y int) bool { return x < y },
		"<=": func(x, y int) bool { return x <= y },
		"=":  func(x, y int) bool { return x == y },
		"!=": func(x, y int) bool { return x != y },
		">":  func(x, y int) bool { return x > y },
		">=": func(x, y int) bool { return x >= y },
	}
	for _, how := range hows() {
		eachPair(func(a, b api.Interval, as, bs []int) {
			var left, right span
			for _, x := range as {
				for _, y := range bs {
					if stands[how](x, y) {
						left.take(x)
						right.take(y)
					}
				}
			}
			wantX, is := left.least()
			wantY, _ := right.least()
			if x, y, ok, err := Refine(a, b, how); x != wantX || y != wantY || ok != is || err != nil {
				t.Error(a, how, b, x, y, ok, err, "want", wantX, wantY, is)
			}
		})
	}
}

// P63: what Narrow tells lies between a and what both have; nothing comes only where they have nothing together.
func TestNarrowAlways(t *testing.T) {
	eachPair(func(a, b api.Interval, as, bs []int) {
		m, some, _ := Meet(a, b)
		x, err := Narrow(a, b)
		if err == api.ErrEmpty {
			if some || x != (api.Interval{}) {
				t.Error(a, b, x)
			}
			return
		}
		in, _ := Within(x, a)
		has, _ := Within(m, x)
		if err != nil || !in || some && !has || x.Down != (a.Down && b.Down) || x.Up != (a.Up && b.Up) || !a.Down && x.Low != a.Low || !a.Up && x.High != a.High {
			t.Error(a, b, x, err)
		}
	})
}

func randomStops(r *rand.Rand) []int {
	l := make([]int, r.Intn(6))
	for i := range l {
		l[i] = r.Intn(4*small+1) - 2*small
	}
	return l
}

// isStop tells whether at is where a bound that must go to n at least has to stop: the next stop, upward.
func isStop(open bool, at, n int, stops []int) bool {
	between := func(s int) bool { return s >= n && (open || s < at) }
	return !slices.ContainsFunc(stops, between) && (open || at >= n && slices.Contains(stops, at))
}

func opposites(l []int) []int {
	out := make([]int, len(l))
	for i, n := range l {
		out[i] = -n
	}
	return out
}

// P63: each bound, held against all stops.
func TestWidenAlways(t *testing.T) {
	r := rand.New(rand.NewSource(63))
	for range 10 {
		eachPair(func(a, b api.Interval, as, bs []int) {
			stops := randomStops(r)
			x, err := Widen(a, b, stops)
			low, high := x.Down == a.Down && x.Low == a.Low, x.Up == a.Up && x.High == a.High
			if !a.Down && (b.Down || b.Low < a.Low) {
				low = b.Down && x.Down || !b.Down && isStop(x.Down, -x.Low, -b.Low, opposites(stops))
			}
			if !a.Up && (b.Up || b.High > a.High) {
				high = b.Up && x.Up || !b.Up && isStop(x.Up, x.High, b.High, stops)
			}
			if !low || !high || err != nil || Valid(x) != nil {
				t.Error(a, b, stops, x, err)
			}
		})
	}
}

// P65: whatever it is widened by, it has that, and does not change too often.
func TestWidenEnds(t *testing.T) {
	r, list := rand.New(rand.NewSource(65)), smalls()
	for range 3000 {
		stops, a, changes := randomStops(r), list[r.Intn(len(list))], 0
		for range 60 {
			b := list[r.Intn(len(list))]
			x, err := Widen(a, b, stops)
			hasA, _ := Within(a, x)
			hasB, _ := Within(b, x)
			if err != nil || !hasA || !hasB {
				t.Fatal(a, b, stops, x, err)
			}
			if x != a {
				changes++
			}
			a = x
		}
		if changes > 2*len(stops)+2 {
			t.Error(stops, changes)
		}
	}
}

// P65: so often as it may change, it can: one bound after the other, stop by stop.
func TestWidenSlowly(t *testing.T) {
	stops := []int{6, -6, 2, -2, 4, -4}
	a, changes := read("0..0"), 0
	for n := 1; n < 9; n++ {
		for _, b := range []api.Interval{{High: n}, {Low: -n}} {
			x, err := Widen(a, b, stops)
			if err != nil {
				t.Fatal(a, b, err)
			}
			if x != a {
				changes++
			}
			a = x
		}
	}
	if changes != 8 || a != read("..") {
		t.Error(changes, a)
	}
}

// greats: intervals whose bounds are of many sizes, up to MaxBound.
func greats() []api.Interval {
	l := []int{0, 1, 2, 3, 1 << 19, 1<<20 - 1, 1 << 20, 1<<20 + 1, 1 << 31, most / 2, most - 1, most}
	l = append(l, opposites(l[1:])...)
	out := []api.Interval{{Down: true, Up: true}}
	for _, low := range l {
		out = append(out, api.Interval{Up: true, Low: low}, api.Interval{Down: true, High: low})
		for _, high := range l {
			if low <= high {
				out = append(out, api.Interval{Low: low, High: high})
			}
		}
	}
	return out
}

// bigEnds of an interval: one that is not there is a number so great that whatever is done with it shows.
func bigEnds(a api.Interval) [2]*big.Int {
	l := [2]*big.Int{big.NewInt(int64(a.Low)), big.NewInt(int64(a.High))}
	if a.Down {
		l[0] = new(big.Int).Lsh(big.NewInt(-1), 100)
	}
	if a.Up {
		l[1] = new(big.Int).Lsh(big.NewInt(1), 100)
	}
	return l
}

// bigSpan tells the least interval that has the numbers, as P60 says where they are too great.
func bigSpan(l []*big.Int) api.Interval {
	low, high := slices.MinFunc(l, (*big.Int).Cmp), slices.MaxFunc(l, (*big.Int).Cmp)
	top, bottom := big.NewInt(most), big.NewInt(-most)
	var a api.Interval
	switch {
	case low.Cmp(bottom) < 0:
		a.Down = true
	case low.Cmp(top) > 0:
		a.Low = most
	default:
		a.Low = int(low.Int64())
	}
	switch {
	case high.Cmp(top) > 0:
		a.Up = true
	case high.Cmp(bottom) < 0:
		a.High = -most
	default:
		a.High = int(high.Int64())
	}
	return a
}

// P60, P62: great bounds, held against numbers of any size: the ends make the least and the greatest.
func TestGreat(t *testing.T) {
	list := greats()
	for _, a := range list {
		for _, b := range list {
			for _, c := range []struct {
				call
				made func(z, x, y *big.Int) *big.Int
			}{
				{one("Add", Add), (*big.Int).Add}, {one("Sub", Sub), (*big.Int).Sub}, {one("Mul", Mul), (*big.Int).Mul}, {some("Div", Div), (*big.Int).Quo},
			} {
				if c.name == "Div" && (b.Down || b.Low < 1) {
					continue
				}
				var l []*big.Int
				for _, x := range bigEnds(a) {
					for _, y := range bigEnds(b) {
						l = append(l, c.made(new(big.Int), x, y))
					}
				}
				want := bigSpan(l)
				if x, _, ok, err := c.of(a, b); x != want || !ok || err != nil {
					t.Error(c.name, a, b, x, ok, err, "want", want)
				}
			}
		}
	}
}

// P65: numbers of great intervals; what is done with them is of what is told.
func TestGreatHas(t *testing.T) {
	r, list := rand.New(rand.NewSource(62)), greats()
	for range 200000 {
		a, b := list[r.Intn(len(list))], list[r.Intn(len(list))]
		x, y := randomOf(r, a), randomOf(r, b)
		if !Has(a, x) || !Has(b, y) {
			t.Fatal(a, x, b, y)
		}
		sums, _ := Add(a, b)
		rests, _ := Sub(a, b)
		if !Has(sums, x+y) || !Has(rests, x-y) {
			t.Error(a, b, x, y, sums, rests)
		}
		if y == 0 {
			continue
		}
		quotients, isQuotient, _ := Div(a, b)
		remainders, isRemainder, _ := Rem(a, b)
		if !isQuotient || !isRemainder || !Has(quotients, x/y) || !Has(remainders, x%y) || goesBeyond(remainders, a, b) {
			t.Error(a, b, x, y, quotients, remainders)
		}
	}
}

// randomOf the numbers of a: near an end, or anywhere.
func randomOf(r *rand.Rand, a api.Interval) int {
	low, high := a.Low, a.High
	if a.Down {
		low = min(high, 0) - 4*most
	}
	if a.Up {
		high = max(low, 0) + 4*most
	}
	if a.Down && a.Up {
		low, high = -4*most, 4*most
	}
	switch r.Intn(4) {
	case 0:
		return min(high, low+r.Intn(4))
	case 1:
		return max(low, high-r.Intn(4))
	case 2:
		return min(high, max(low, r.Intn(7)-3))
	}
	return low + r.Intn(high-low+1)
}

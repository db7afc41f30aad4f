package octagon

import (
	"math/rand"
	"slices"
	"testing"

	"raycone/api"
	"raycone/zone"
)

// great octagons, of any many variables, whose bounds are small, or next to MaxBound, or between. Half of them have a point for sure.
func great(r *rand.Rand, n int) Octagon {
	o, few, lenient := of(n), 1+r.Intn(5), r.Intn(2) == 0
	p := make([]int, n)
	for x := range p {
		p[x] = sized(r)
	}
	for k := range o.L {
		i, j := k/(2*n), k%(2*n)
		if i == j && r.Intn(40) > 0 || r.Intn(few) > 0 {
			continue
		}
		c := Cell{true, sized(r)}
		if lenient {
			c.Most = r.Intn(4)
			for x, times := range sum(n, i, j) {
				c.Most += times * p[x]
			}
		}
		if !isFar(c.Most) {
			o.L[k], o.L[(j^1)*2*n+(i^1)] = c, c
		}
	}
	return o
}

// sized: a number of any size up to MaxBound.
func sized(r *rand.Rand) int {
	n := r.Intn(5)
	switch r.Intn(4) {
	case 0:
		n = most - r.Intn(3)
	case 1:
		n = most/2 + r.Intn(3) - 1
	}
	if r.Intn(2) == 0 {
		return -n
	}
	return n
}

// facts: the most of each sum of one variable or two, each once or less it. They are told by adding any two facts up, over and over, until nothing more comes of it: another way than that of the program.
type (
	term  [5]int
	facts map[term]int
)

// add a fact; false: it was told.
func (f facts) add(m term, most int) bool {
	if old, ok := f[m]; ok && old <= most {
		return false
	}
	f[m] = most
	return true
}

// factsOf an octagon: what is said of twice a number is said of the number.
func factsOf(o Octagon) facts {
	f := facts{}
	for k, c := range o.L {
		var m term
		copy(m[:], sum(o.N, k/(2*o.N), k%(2*o.N)))
		if c.Has {
			f.say(m, c.Most)
		}
	}
	return f
}

// say a fact of any sum, if it is of that kind; false: it is not, or was told.
func (f facts) say(m term, most int) bool {
	size, twice := 0, false
	for _, times := range m {
		size += max(times, -times)
		twice = twice || times == 2 || times == -2
	}
	if size > 2 {
		return false
	}
	if !twice {
		return f.add(m, most)
	}
	for x := range m {
		m[x] /= 2
	}
	// Downward, also below 0.
	return f.add(m, (most-most&1)/2)
}

// all that comes of them; false: 0 is below 0.
func (f facts) all(t *testing.T) bool {
	t.Helper()
	for range 12 {
		more := false
		l := make([]term, 0, len(f))
		for m := range f {
			l = append(l, m)
		}
		for _, a := range l {
			for _, b := range l {
				var m term
				for x := range m {
					m[x] = a[x] + b[x]
				}
				more = f.say(m, f[a]+f[b]) || more
			}
		}
		if f[term{}] < 0 {
			return false
		}
		if !more {
			return true
		}
	}
	t.Fatal("no end", f)
	return false
}

// tell facts as an octagon of those variables, as P91 says where a bound is too great.
func (f facts) tell(variables []int) Octagon {
	n := len(variables)
	o := of(n)
	for k := range o.L {
		var m term
		times := 1
		for x, often := range sum(n, k/(2*n), k%(2*n)) {
			if m[variables[x]] = often; often == 2 || often == -2 {
				m[variables[x]], times = often/2, 2
			}
		}
		if bound, ok := f[m]; m == (term{}) {
			o.L[k] = Cell{true, 0}
		} else if ok && bound*times <= most {
			o.L[k] = Cell{true, max(bound*times, -most)}
		}
	}
	return o
}

// first n numbers, from 0 on.
func first(n int) []int {
	l := make([]int, n)
	for i := range l {
		l[i] = i
	}
	return l
}

// wanted octagon of facts.
func (f facts) wanted(t *testing.T, variables []int) (Octagon, bool) {
	t.Helper()
	if !f.all(t) {
		return Octagon{}, false
	}
	return f.tell(variables), true
}

func checkGreat(t *testing.T, name string, given any, o Octagon, ok bool, err error, want Octagon, is bool) {
	t.Helper()
	if !same(o, want) || ok != is || err != nil {
		t.Fatal(name, given, o, ok, err, "want", want, is)
	}
}

// P91, P93, P94: great octagons: no bound is lost on the way, and none is told that is too great.
func TestGreat(t *testing.T) {
	r := rand.New(rand.NewSource(97))
	some := 0
	for range 4000 {
		o := great(r, 1+r.Intn(4))
		f := factsOf(o)
		want, is := f.wanted(t, first(o.N))
		got, ok, err := Close(o)
		checkGreat(t, "Close", o, got, ok, err, want, is)
		for x := range o.N {
			checkBounds(t, o, x, f, is)
		}
		if is {
			some++
		}
		checkChanges(t, o, r.Intn(o.N), r.Intn(3)-1, r.Intn(o.N), sized(r))
		if x, y := r.Intn(o.N), r.Intn(o.N); x != y {
			a, b, c := r.Intn(3)-1, r.Intn(3)-1, sized(r)
			f := factsOf(o)
			var m term
			m[x], m[y] = a, b
			f.say(m, c)
			want, is := f.wanted(t, first(o.N))
			got, ok, err := Guard(o, a, x, b, y, c)
			checkGreat(t, "Guard", []any{o, a, x, b, y, c}, got, ok, err, want, is)
		}
	}
	if some < 1000 {
		t.Error("too few have points", some)
	}
}

func checkBounds(t *testing.T, o Octagon, x int, f facts, is bool) {
	t.Helper()
	var want api.Interval
	if is {
		var up, down term
		up[x], down[x] = 1, -1
		high, ends := f[up]
		low, begins := f[down]
		if want.Up = !ends || high > most; !want.Up {
			want.High = max(high, -most)
		}
		if want.Down = !begins || low > most; !want.Down {
			want.Low = -max(low, -most)
		}
	}
	if got, ok, err := Bounds(o, x); got != want || ok != is || err != nil {
		t.Fatal("Bounds", o, x, got, ok, err, "want", want, is)
	}
}

// checkChanges of x: what it becomes is one variable more, which takes its place.
func checkChanges(t *testing.T, o Octagon, x, sign, y, c int) {
	t.Helper()
	places := first(o.N)
	places[x] = o.N
	want, is := factsOf(o).wanted(t, places)
	got, ok, err := Forget(o, x)
	checkGreat(t, "Forget", []any{o, x}, got, ok, err, want, is)
	f := factsOf(o)
	var m, less term
	m[o.N], less[o.N] = 1, -1
	m[y], less[y] = -sign, sign
	f.say(m, c)
	f.say(less, -c)
	want, is = f.wanted(t, places)
	got, ok, err = Assign(o, x, sign, y, c)
	checkGreat(t, "Assign", []any{o, x, sign, y, c}, got, ok, err, want, is)
}

// P92, P94: great octagons, two of them.
func TestGreatPairs(t *testing.T) {
	r := rand.New(rand.NewSource(98))
	for range 3000 {
		n := 1 + r.Intn(4)
		a, b := great(r, n), great(r, n)
		f, x, y := factsOf(a), factsOf(a), factsOf(b)
		for m, most := range y {
			f.add(m, most)
		}
		want, is := f.wanted(t, first(n))
		o, ok, err := Meet(a, b)
		checkGreat(t, "Meet", []Octagon{a, b}, o, ok, err, want, is)
		some, more := x.all(t), y.all(t)
		in, err := Within(a, b)
		if want := !some || x.follow(factsOf(b)); in != want || err != nil {
			t.Fatal("Within", a, b, in, err)
		}
		switch {
		case some && more:
			for m, bound := range x {
				if other, ok := y[m]; !ok {
					delete(x, m)
				} else {
					x[m] = max(bound, other)
				}
			}
		case more:
			x = y
		}
		want = Octagon{}
		if some || more {
			want = x.tell(first(n))
		}
		if o, err = Join(a, b); !some && !more && err == api.ErrEmpty {
			err = nil
		}
		checkGreat(t, "Join", []Octagon{a, b}, o, some || more, err, want, some || more)
	}
}

// follow: are all other facts so, too?
func (f facts) follow(other facts) bool {
	for m, bound := range other {
		if most, ok := f[m]; m == (term{}) && bound < 0 || m != (term{}) && (!ok || most > bound) {
			return false
		}
	}
	return true
}

// P94: great zones.
func TestGreatZones(t *testing.T) {
	r := rand.New(rand.NewSource(99))
	some := 0
	for range 4000 {
		n := r.Intn(5)
		z, few, f := zone.Zone{N: n, L: make([]zone.Cell, (n+1)*(n+1))}, 1+r.Intn(4), facts{}
		for k := range z.L {
			i, j := k/(n+1), k%(n+1)
			if i == j && r.Intn(40) > 0 || r.Intn(few) > 0 {
				continue
			}
			z.L[k] = zone.Cell{Has: true, Most: sized(r)}
			var m term
			if j > 0 {
				m[j-1]++
			}
			if i > 0 {
				m[i-1]--
			}
			f.say(m, z.L[k].Most)
		}
		want, is := f.wanted(t, first(n))
		if is {
			some++
		}
		o, ok, err := OfZone(z)
		checkGreat(t, "OfZone", z, o, ok, err, want, is)
	}
	if some < 1000 {
		t.Error("too few have points", some)
	}
}

// P91, P92, P95: tight ones have the same points just if they are the same; what is tight stays so.
func TestSamePoints(t *testing.T) {
	r := rand.New(rand.NewSource(100))
	alike := 0
	for range 20000 {
		n := 1 + r.Intn(2)
		a, b := great(r, n), great(r, n)
		x, some, _ := Close(a)
		y, more, _ := Close(b)
		in, _ := Within(a, b)
		over, _ := Within(b, a)
		if (in && over) != same(x, y) {
			t.Fatal(a, b, x, y, in, over)
		}
		if same(x, y) {
			alike++
		}
		if more {
			checkClose(t, y, y)
		}
		if !some {
			continue
		}
		in, _ = Within(a, x)
		over, _ = Within(x, a)
		if !in || !over {
			t.Fatal(a, x, in, over)
		}
	}
	if alike < 1000 {
		t.Error("too few are alike", alike)
	}
}

// P95: each bound that is told is reached by a point of whole numbers; one that is set to minus MaxBound need not be.
func TestReached(t *testing.T) {
	r := rand.New(rand.NewSource(101))
	reached := 0
	for range 400 {
		o := great(r, 1+r.Intn(4))
		z, ok, err := Close(o)
		if !ok || err != nil {
			continue
		}
		for k, c := range z.L {
			l := sum(o.N, k/(2*o.N), k%(2*o.N))
			if !c.Has || c.Most == -most {
				continue
			}
			p := pointAt(t, o, l, c.Most)
			if !holds(o, p) || !holds(z, p) || times(l, p) != c.Most {
				t.Fatal(o, z, l, p)
			}
			reached++
		}
	}
	if reached < 2000 {
		t.Error("too few are reached", reached)
	}
}

// pointAt which a sum is just that: variable by variable, each as near to 0 as it can be.
func pointAt(t *testing.T, o Octagon, l []int, bound int) []int {
	t.Helper()
	f := factsOf(o)
	var m term
	for x := range l {
		m[x] = -l[x]
	}
	f.say(m, -bound)
	p := make([]int, o.N)
	for x := range p {
		if !f.all(t) {
			t.Fatal("no point", o, l, bound)
		}
		var up, down term
		up[x], down[x] = 1, -1
		if high, ok := f[up]; ok {
			p[x] = min(p[x], high)
		}
		if low, ok := f[down]; ok {
			p[x] = max(p[x], -low)
		}
		f.say(up, p[x])
		f.say(down, -p[x])
	}
	return p
}

// times: what a sum is at a point, of numbers of any size.
func times(l, p []int) int {
	n := 0
	for x := range p {
		n += l[x] * p[x]
	}
	return n
}

// holds: what the promise says of each cell.
func holds(o Octagon, p []int) bool {
	return !slices.ContainsFunc(first(len(o.L)), func(k int) bool {
		return o.L[k].Has && times(sum(o.N, k/(2*o.N), k%(2*o.N)), p) > o.L[k].Most
	})
}

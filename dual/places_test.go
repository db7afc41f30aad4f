package dual

import (
	"math/rand"
	"slices"
	"testing"
)

func list(p places) []int {
	var l []int
	for n := range 64 * len(p) {
		if p[n/64]>>(n%64)&1 != 0 {
			l = append(l, n)
		}
	}
	return l
}

func TestPlacesBelow(t *testing.T) {
	for _, n := range []int{0, 1, 63, 64, 65, 200} {
		p := placesBelow(n)
		if l := list(p); len(l) != n || p.count() != n || n > 0 && l[n-1] != n-1 {
			t.Error(n, l, p.count())
		}
	}
}

func TestPlacesWhere(t *testing.T) {
	for _, n := range []int{0, 1, 63, 64, 65, 200} {
		third := func(i int) bool { return i%3 == 2 }
		p := placesWhere(n, third)
		if l := list(p); len(l) != n/3 || p.count() != n/3 || slices.ContainsFunc(l, func(i int) bool { return !third(i) }) {
			t.Error(n, l, p.count())
		}
	}
}

func TestPlacesKept(t *testing.T) {
	p := placesBelow(3)
	a, b := p.with(9), p.with(70)
	if !slices.Equal(list(p), []int{0, 1, 2}) || !slices.Equal(list(a), []int{0, 1, 2, 9}) || !slices.Equal(list(b), []int{0, 1, 2, 70}) {
		t.Error(list(p), list(a), list(b))
	}
}

func TestPlacesSets(t *testing.T) {
	r := rand.New(rand.NewSource(1))
	some := func() (places, []int) {
		var p places
		var l []int
		most := 1 + r.Intn(150)
		for range r.Intn(6) {
			n := r.Intn(most)
			p, l = p.with(n), append(l, n)
		}
		slices.Sort(l)
		return p, slices.Compact(l)
	}
	for range 2000 {
		p, l := some()
		q, m := some()
		if r.Intn(3) == 0 {
			for _, n := range l {
				q = q.with(n)
			}
			m = list(q)
		}
		missing := slices.ContainsFunc(l, func(n int) bool { return !slices.Contains(m, n) })
		both := slices.DeleteFunc(slices.Clone(l), func(n int) bool { return !slices.Contains(m, n) })
		if p.within(q) == missing || p.count() != len(l) || !slices.Equal(list(p.both(q)), both) || !slices.Equal(list(q.both(p)), both) {
			t.Fatal(l, m, p.within(q), p.count(), list(p.both(q)))
		}
	}
}

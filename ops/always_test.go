package ops

import (
	"fmt"
	"math/big"
	"math/rand"
	"slices"
	"testing"

	"raycone/api"
	"raycone/poly"
)

// hullOf what makes a polyhedron, by the words of P31 and P40.
func hullOf(dim int, rays, lines []vec) string {
	if !slices.ContainsFunc(rays, func(v vec) bool { return !isOpen(v) }) {
		return nothingOf(dim)
	}
	up, even := cross(dim+1, rays, lines)
	return toldRows(even, slices.DeleteFunc(up, func(v vec) bool { return v.pivot() == dim }))
}

func makersOf(p api.Poly) (rays, lines []vec) {
	up, even := rowsOf(p)
	return makers(p.Dim, up, even)
}

// ways that an answer can end, so that none is tried too seldom.
type ways map[string]int

func (w ways) count(dim int, want string) {
	switch want {
	case "bound", "":
	case nothingOf(dim):
		want = "nothing"
	default:
		want = "rows"
	}
	w[want]++
}

func nothingOf(dim int) string { return toldRows(nil, []vec{endless(dim).opposite()}) }

func (w ways) check(t *testing.T, rows, none, bound, free int) {
	t.Helper()
	if w["rows"] < rows || w["nothing"] < none || w["bound"] < bound || w[""] < free {
		t.Error("too few of one kind:", w)
	}
}

// someDim, seldom a great one, of which it takes long to try all choices; and how many rows.
func someDim(r *rand.Rand) (dim, rows int) {
	if r.Intn(20) == 0 {
		return 4 + r.Intn(2), 6
	}
	return r.Intn(4), 7
}

// P40: against what is worked out apart.
func TestAlwaysMeet(t *testing.T) {
	r, ends := rand.New(rand.NewSource(1)), ways{}
	for range 1000 {
		dim, rows := someDim(r)
		p, q := randomPoly(r, dim, rows), randomPoly(r, dim, rows)
		up, even := rowsOf(made(dim, slices.Concat(p.Rows, q.Rows)...))
		want := wantForm(dim, up, even)
		if got := saidRows(Meet(p, q)); got != want {
			t.Fatal(p, q, got, want)
		}
		ends.count(dim, want)
	}
	ends.check(t, 200, 100, 3, 50)
}

// boxed: between -3 and 3 in each number, so that points alone make it.
func boxed(p api.Poly) api.Poly {
	for i := range p.Dim {
		low, high := least(-3, make([]int, p.Dim)...), least(-3, make([]int, p.Dim)...)
		low.A[i], high.A[i] = 1, -1
		p.Rows = append(p.Rows, low, high)
	}
	return p
}

// P40: against what is worked out apart.
func TestAlwaysJoin(t *testing.T) {
	r, ends := rand.New(rand.NewSource(2)), ways{}
	for range 1500 {
		dim, rows := someDim(r)
		p, q := randomPoly(r, dim, rows), randomPoly(r, dim, rows)
		if dim < 4 && r.Intn(2) == 0 {
			p, q = boxed(p), boxed(q)
		}
		rays, lines := makersOf(p)
		others, more := makersOf(q)
		want := hullOf(dim, slices.Concat(rays, others), slices.Concat(lines, more))
		if got := saidRows(Join(p, q)); got != want {
			t.Fatal(p, q, got, want)
		}
		ends.count(dim, want)
	}
	ends.check(t, 500, 20, 20, 200)
}

func randomMap(r *rand.Rand, from, to int) Map {
	m, size := make(Map, to), randomSize(r)
	for i := range m {
		m[i] = randomList(r, from+1, size)
	}
	return m
}

// through the map goes a point, with its Den behind it, or a ray with 0 there.
func (v vec) through(m Map) vec {
	var w vec
	for _, row := range m {
		w = append(w, v.dot(vecOf(row[:len(row)-1], row[len(row)-1])))
	}
	return append(w, v[len(v)-1])
}

func throughAll(l []vec, m Map) []vec {
	var all []vec
	for _, v := range l {
		all = append(all, v.through(m))
	}
	return all
}

// P41: against what is worked out apart.
func TestAlwaysImage(t *testing.T) {
	r, ends := rand.New(rand.NewSource(3)), ways{}
	for range 700 {
		dim, rows := someDim(r)
		p, m := randomPoly(r, dim, rows), randomMap(r, dim, r.Intn(4))
		rays, lines := makersOf(p)
		want := hullOf(len(m), throughAll(rays, m), throughAll(lines, m))
		if got := saidRows(Image(p, m)); got != want {
			t.Fatal(p, m, got, want)
		}
		ends.count(len(m), want)
	}
	ends.check(t, 200, 50, 20, 50)
}

// before the map: what a row asks of what comes, it asks of what goes in.
func (v vec) before(dim int, m Map) vec {
	sum := vecOf(make([]int, dim), 0)
	for i, row := range m {
		sum = sum.plus(v[i], vecOf(row[:dim], row[dim]))
	}
	return sum.plus(v[len(v)-1], endless(dim))
}

// P41: against what is worked out apart.
func TestAlwaysBefore(t *testing.T) {
	r, ends := rand.New(rand.NewSource(4)), ways{}
	for range 1000 {
		dim, rows := someDim(r)
		p := randomPoly(r, r.Intn(6), rows)
		m := randomMap(r, dim, p.Dim)
		up, even := rowsOf(p)
		for _, l := range [][]vec{up, even} {
			for i, v := range l {
				l[i] = v.before(dim, m)
			}
		}
		want := wantForm(dim, up, even)
		if got := saidRows(Before(p, dim, m)); got != want {
			t.Fatal(p, dim, m, got, want)
		}
		ends.count(dim, want)
	}
	ends.check(t, 200, 50, 5, 50)
}

// without the variable x, pair by pair: one row that bounds it from below, and one that does from above.
func without(p api.Poly, x int) []vec {
	var low, high, rest []vec
	up, even := rowsOf(p)
	for _, v := range even {
		up = append(up, v, v.opposite())
	}
	for _, v := range up {
		switch v[x].Sign() {
		case 1:
			low = append(low, v)
		case 0:
			rest = append(rest, v)
		case -1:
			high = append(high, v)
		}
	}
	for _, v := range low {
		for _, w := range high {
			often := new(big.Rat).Quo(v[x], w[x])
			rest = append(rest, v.plus(often.Neg(often), w))
		}
	}
	return rest
}

// P42: against what is worked out apart.
func TestAlwaysDrop(t *testing.T) {
	r, ends := rand.New(rand.NewSource(5)), ways{}
	for range 1000 {
		dim := 1 + r.Intn(4)
		p, x := randomPoly(r, dim, 7), r.Intn(dim)
		free := without(p, x)
		var less []vec
		for _, v := range free {
			less = append(less, slices.Delete(slices.Clone(v), x, x+1))
		}
		want := wantForm(dim-1, less, nil)
		if got := saidRows(Drop(p, x)); got != want {
			t.Fatal(p, x, got, want)
		}
		ends.count(dim-1, want)
		if want = wantForm(dim, free, nil); saidRows(Forget(p, x)) != want {
			t.Fatal(p, x, saidRows(Forget(p, x)), want)
		}
	}
	ends.check(t, 200, 50, 5, 50)
}

// holdsOn tells whether a row holds at all that rays and lines make.
func (v vec) holdsOn(isEven bool, rays, lines []vec) bool {
	fails := func(x vec) bool { return v.side(x) < 0 || isEven && v.side(x) != 0 }
	return !slices.ContainsFunc(rays, fails) && !slices.ContainsFunc(lines, func(l vec) bool { return v.side(l) != 0 })
}

// wantWidened by the words of P43.
func wantWidened(p, q api.Poly, more []api.Row) string {
	up, even := rowsOf(p)
	rays, lines := makersOf(p)
	others, ways := makersOf(q)
	if len(rays) == 0 {
		up, even = rowsOf(q)
	}
	up, even = formOf(p.Dim, up, even)
	if len(rays) == 0 || len(others) == 0 {
		return toldRows(even, up)
	}
	for _, v := range even {
		up = append(up, v, v.opposite())
	}
	up = slices.DeleteFunc(up, func(v vec) bool { return !v.holdsOn(false, others, ways) })
	moreUp, even := rowsOf(made(p.Dim, more...))
	for _, v := range moreUp {
		if v.holdsOn(false, rays, lines) && v.holdsOn(false, others, ways) {
			up = append(up, v)
		}
	}
	even = slices.DeleteFunc(even, func(v vec) bool { return !v.holdsOn(true, rays, lines) || !v.holdsOn(true, others, ways) })
	return wantForm(p.Dim, up, even)
}

// nextTo p: its rows pushed aside, some of them left out.
func nextTo(r *rand.Rand, p api.Poly) api.Poly {
	q := made(p.Dim)
	for _, row := range p.Rows {
		row.B = max(-most, min(most, row.B+[]int{0, 0, 0, -1, 1}[r.Intn(5)]))
		row.Eq = row.Eq && r.Intn(3) > 0
		if r.Intn(6) > 0 {
			q.Rows = append(q.Rows, row)
		}
	}
	return q
}

// P43: against what is worked out apart.
func TestAlwaysWiden(t *testing.T) {
	r, ends := rand.New(rand.NewSource(6)), ways{}
	kept := 0
	for range 1200 {
		dim, rows := someDim(r)
		p := randomPoly(r, dim, rows)
		q := nextTo(r, p)
		if r.Intn(9) == 0 {
			q = randomPoly(r, dim, rows)
		}
		more := slices.Concat(nextTo(r, q).Rows, nextTo(r, p).Rows)
		want := wantWidened(p, q, more)
		if got := saidRows(Widen(p, q, more)); got != want {
			t.Fatal(p, q, more, got, want)
		}
		alone := wantWidened(p, q, nil)
		if got := saidRows(Widen(p, q, nil)); got != alone {
			t.Fatal(p, q, got, alone)
		}
		if want != alone {
			kept++
		}
		ends.count(dim, want)
	}
	ends.check(t, 200, 50, 0, 50)
	if kept < 50 {
		t.Error("too few rows of more are left:", kept)
	}
}

func within(t *testing.T, p, q api.Poly) bool {
	t.Helper()
	is, err := poly.Within(p, q)
	if err != nil {
		t.Fatal(p, q, err)
	}
	return is
}

// smallPoly has small numbers: so what comes of it can mostly be handed in again.
func smallPoly(r *rand.Rand, dim, most int) api.Poly {
	p := made(dim)
	for range r.Intn(most + 1) {
		row := api.Row{Eq: r.Intn(6) == 0, A: randomList(r, dim, 2)}
		if row.B = -r.Intn(5); row.Eq {
			row.B = 0
		}
		if r.Intn(30) == 0 {
			row.B = r.Intn(3)
		}
		p.Rows = append(p.Rows, row)
	}
	return p
}

// again: can it be handed in?
func again(p api.Poly, err error) bool { return err == nil && poly.Valid(p) == nil }

// P44: Meet is the greatest in both, Join the least that has both.
func TestAlwaysOrder(t *testing.T) {
	r := rand.New(rand.NewSource(7))
	tried, inBoth, hasBoth := 0, 0, 0
	for range 1500 {
		dim := r.Intn(5)
		p, q, other := smallPoly(r, dim, 6), smallPoly(r, dim, 6), smallPoly(r, dim, 6)
		meet, err := Meet(p, q)
		join, fault := Join(p, q)
		if !again(meet, err) || !again(join, fault) {
			continue
		}
		tried++
		if !within(t, meet, p) || !within(t, meet, q) || !within(t, p, join) || !within(t, q, join) {
			t.Fatal(p, q, meet, join)
		}
		// Others in both, and others that have both: they are made of these.
		lower, upper := other, other
		lower.Rows = slices.Concat(other.Rows, p.Rows, q.Rows)
		upper.Rows = slices.DeleteFunc(slices.Concat(other.Rows, p.Rows, q.Rows), func(row api.Row) bool {
			one := made(dim, row)
			return !within(t, p, one) || !within(t, q, one)
		})
		if !within(t, lower, meet) || !within(t, join, upper) {
			t.Fatal(p, q, meet, join, lower, upper)
		}
		if within(t, other, p) && within(t, other, q) {
			inBoth++
		}
		if within(t, p, other) && within(t, q, other) {
			hasBoth++
		}
		if within(t, other, p) && within(t, other, q) && !within(t, other, meet) || within(t, p, other) && within(t, q, other) && !within(t, join, other) {
			t.Fatal(p, q, meet, join, other)
		}
	}
	if tried < 700 || inBoth < 50 || hasBoth < 50 {
		t.Error("too few:", tried, inBoth, hasBoth)
	}
}

// P44: Forget is Before of Drop, and x stands in none of its rows.
func TestAlwaysForget(t *testing.T) {
	r := rand.New(rand.NewSource(8))
	tried := 0
	for range 1500 {
		dim := 1 + r.Intn(5)
		p, x := smallPoly(r, dim, 8), r.Intn(dim)
		less, err := Drop(p, x)
		if !again(less, err) {
			continue
		}
		tried++
		var others Map
		for i := range dim {
			unit := make([]int, dim+1)
			unit[i] = 1
			if i != x {
				others = append(others, unit)
			}
		}
		want, err := Before(less, dim, others)
		forgotten, fault := Forget(p, x)
		if fmt.Sprint(forgotten) != fmt.Sprint(want) || err != nil || fault != nil {
			t.Fatal(p, x, forgotten, want, err, fault)
		}
		if slices.ContainsFunc(forgotten.Rows, func(row api.Row) bool { return row.A[x] != 0 }) {
			t.Fatal(p, x, forgotten)
		}
		image, err := Image(p, others)
		if fmt.Sprint(image) != fmt.Sprint(less) || err != nil {
			t.Fatal(p, x, image, less, err)
		}
	}
	if tried < 700 {
		t.Error("too few:", tried)
	}
}

// P44: the image of a point is a point of the Image; and before the map stand just those that become points.
func TestAlwaysPoints(t *testing.T) {
	r := rand.New(rand.NewSource(9))
	tried, yes, no := 0, 0, 0
	for range 2000 {
		dim, to := r.Intn(5), r.Intn(5)
		p, q, m := smallPoly(r, dim, 6), smallPoly(r, to, 4), make(Map, to)
		for i := range m {
			m[i] = randomList(r, dim+1, 2)
		}
		x := api.Point{X: randomList(r, dim, 4), Den: 1 + r.Intn(3)}
		y := api.Point{Den: x.Den}
		for _, row := range m {
			y.X = append(y.X, sumOf(row[:dim], x.X)+row[dim]*x.Den)
		}
		isIn, _ := poly.Has(p, x)
		if image, err := Image(p, m); isIn && again(image, err) {
			tried++
			if is, err := poly.Has(image, y); !is || err != nil {
				t.Fatal(p, m, x, y, image, err)
			}
		}
		before, err := Before(q, dim, m)
		if !again(before, err) {
			continue
		}
		was, err := poly.Has(before, x)
		is, fault := poly.Has(q, y)
		if was != is || err != nil || fault != nil {
			t.Fatal(q, m, x, y, before, err, fault)
		}
		if is {
			yes++
		} else {
			no++
		}
	}
	if tried < 200 || yes < 200 || no < 200 {
		t.Error("too few of one kind:", tried, yes, no)
	}
}

// countBoth counts rows, those with Eq twice.
func countBoth(p api.Poly) int {
	n := len(p.Rows)
	for _, row := range p.Rows {
		if row.Eq {
			n++
		}
	}
	return n
}

// P44: what is widened, over and over, comes to stay; and has all that it was widened by.
func TestAlwaysStays(t *testing.T) {
	r := rand.New(rand.NewSource(10))
	most := 0
	for range 600 {
		dim := 1 + r.Intn(4)
		p := made(dim, least(1, make([]int, dim)...))
		if r.Intn(3) > 0 {
			p = smallPoly(r, dim, 9)
		}
		p, err := poly.Form(p)
		if !again(p, err) {
			continue
		}
		changes, bound := 0, -1
		for range 30 {
			if none, _ := poly.Empty(p); !none && bound < 0 {
				bound = countBoth(p) + 1
			}
			q := smallPoly(r, dim, 9)
			q.Rows = append(q.Rows, p.Rows[:r.Intn(len(p.Rows)+1)]...)
			if poly.Valid(q) != nil {
				break
			}
			wider, err := Widen(p, q, nil)
			if !again(wider, err) {
				break
			}
			if !within(t, p, wider) || !within(t, q, wider) {
				t.Fatal(p, q, wider)
			}
			if fmt.Sprint(wider) != fmt.Sprint(p) {
				changes++
			}
			p = wider
		}
		if bound >= 0 && changes > bound {
			t.Fatal(p, changes, bound)
		}
		most = max(most, changes)
	}
	if most < 4 {
		t.Error("too few changes:", most)
	}
}

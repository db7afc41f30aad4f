package poly

import (
	"fmt"
	"math/big"
	"math/rand"
	"slices"
	"testing"

	"raycone/api"
)

// Answers that are worked out apart from the program: of fractions, by the words of the document, each choice of rows tried.

type vec []*big.Rat

func vecOf(l []int, last int) vec {
	var v vec
	for _, n := range append(slices.Clone(l), last) {
		v = append(v, big.NewRat(int64(n), 1))
	}
	return v
}

func (v vec) dot(w vec) *big.Rat {
	sum := new(big.Rat)
	for i, n := range v {
		sum.Add(sum, new(big.Rat).Mul(n, w[i]))
	}
	return sum
}

func (v vec) side(w vec) int { return v.dot(w).Sign() }

// plus x times w.
func (v vec) plus(x *big.Rat, w vec) vec {
	var sum vec
	for i, n := range v {
		sum = append(sum, new(big.Rat).Add(n, new(big.Rat).Mul(x, w[i])))
	}
	return sum
}

func (v vec) opposite() vec { return v.plus(big.NewRat(-2, 1), v) }

func (v vec) pivot() int {
	return slices.IndexFunc(v, func(n *big.Rat) bool { return n.Sign() != 0 })
}

// normal: whole numbers with nothing that divides all of them.
func (v vec) normal() vec {
	den, divisor := big.NewInt(1), new(big.Int)
	for _, n := range v {
		den.Mul(den, n.Denom())
	}
	for _, n := range v {
		whole := new(big.Rat).Mul(n, new(big.Rat).SetInt(den))
		divisor.GCD(nil, nil, divisor, new(big.Int).Abs(whole.Num()))
	}
	if divisor.Sign() == 0 {
		return v
	}
	by := new(big.Rat).SetFrac(den, divisor)
	return v.plus(by.Sub(by, big.NewRat(1, 1)), v)
}

func (v vec) compare(w vec) int { return slices.CompareFunc(v, w, (*big.Rat).Cmp) }

func (v vec) equal(w vec) bool { return v.compare(w) == 0 }

func isSame(l, m []vec) bool { return slices.EqualFunc(l, m, vec.equal) }

// reduced rows, with pivots of 1.
func reduced(m []vec, width int) []vec {
	l := slices.Clone(m)
	done := 0
	for column := range width {
		at := slices.IndexFunc(l[done:], func(v vec) bool { return v[column].Sign() != 0 })
		if at < 0 {
			continue
		}
		l[done], l[done+at] = l[done+at], l[done]
		by := new(big.Rat).Inv(l[done][column])
		l[done] = l[done].plus(by.Sub(by, big.NewRat(1, 1)), l[done])
		for i, v := range l {
			if i != done && v[column].Sign() != 0 {
				l[i] = v.plus(new(big.Rat).Neg(v[column]), l[done])
			}
		}
		done++
	}
	return l[:done]
}

// flatOn: what makes all x on which each row of m is 0.
func flatOn(m []vec, width int) []vec {
	m = reduced(m, width)
	var l []vec
	for column := range width {
		if slices.ContainsFunc(m, func(v vec) bool { return v.pivot() == column }) {
			continue
		}
		x := vecOf(make([]int, width-1), 0)
		x[column].SetInt64(1)
		for _, v := range m {
			x[v.pivot()].Neg(v[column])
		}
		l = append(l, x)
	}
	return l
}

// rest of v with 0 in the pivots' columns of reduced rows.
func (v vec) rest(m []vec) vec {
	for _, by := range m {
		v = v.plus(new(big.Rat).Neg(v[by.pivot()]), by)
	}
	return v.normal()
}

// choices puts each choice of n rows of m, with those chosen ahead, through take.
func choices(m []vec, n int, chosen []vec, take func([]vec)) {
	if n == 0 {
		take(chosen)
		return
	}
	for i := range m {
		choices(m[i+1:], n-1, append(chosen[:len(chosen):len(chosen)], m[i]), take)
	}
}

// cross tells the rays and lines of the cone of rows: or the rows of the cone of rays and lines.
func cross(width int, up, even []vec) (rays, lines []vec) {
	lines = reduced(flatOn(slices.Concat(up, even), width), width)
	flat := slices.Clone(even)
	for _, l := range lines {
		unit := vecOf(make([]int, width-1), 0)
		unit[l.pivot()].SetInt64(1)
		flat = append(flat, unit)
	}
	flat = reduced(flat, width)
	take := func(m []vec) {
		left := flatOn(m, width)
		if len(left) != 1 {
			return
		}
		for _, x := range []vec{left[0], left[0].opposite()} {
			if !slices.ContainsFunc(up, func(r vec) bool { return r.side(x) < 0 }) {
				rays = append(rays, x.normal())
			}
		}
	}
	if open := width - 1 - len(flat); open >= 0 {
		choices(up, open, flat, take)
	}
	slices.SortFunc(rays, vec.compare)
	return slices.CompactFunc(rays, vec.equal), lines
}

func endless(dim int) vec { return vecOf(make([]int, dim), 1) }

func isOpen(v vec) bool { return v[len(v)-1].Sign() == 0 }

func rowsOf(p api.Poly) (up, even []vec) {
	for _, r := range p.Rows {
		if r.Eq {
			even = append(even, vecOf(r.A, -r.B))
		} else {
			up = append(up, vecOf(r.A, -r.B))
		}
	}
	return up, even
}

// makers of a polyhedron by rows: points and rays, and lines; without points there is nothing.
func makers(dim int, up, even []vec) (rays, lines []vec) {
	rays, lines = cross(dim+1, append(slices.Clone(up), endless(dim)), even)
	if !slices.ContainsFunc(rays, func(v vec) bool { return !isOpen(v) }) {
		return nil, nil
	}
	return rays, lines
}

// told: lines of text, of as many kinds of rows, or an error.
func told(names []string, kinds ...[]vec) string {
	n, text := 0, ""
	for i, l := range kinds {
		for _, v := range l {
			for _, x := range v {
				if x.Num().CmpAbs(big.NewInt(api.MaxTold)) > 0 {
					return "bound"
				}
			}
			text += names[i] + fmt.Sprint([]*big.Rat(v)) + "\n"
			n++
		}
	}
	if n > api.MaxMany {
		return "bound"
	}
	return text
}

func normals(l []vec) []vec {
	var m []vec
	for _, v := range l {
		m = append(m, v.normal())
	}
	return m
}

func toldRows(even, up []vec) string { return told([]string{"=", ">="}, normals(even), up) }

func toldGens(rays, lines []vec) string {
	points := slices.DeleteFunc(slices.Clone(rays), isOpen)
	open := slices.DeleteFunc(slices.Clone(rays), func(v vec) bool { return !isOpen(v) })
	return told([]string{"point", "ray", "line"}, points, open, normals(lines))
}

// saidRows, saidGens: what the program says, in the same words.
func saidRows(p api.Poly, err error) string {
	if err == api.ErrBound {
		return "bound"
	}
	text := ""
	for _, r := range p.Rows {
		name := ">="
		if r.Eq {
			name = "="
		}
		text += name + fmt.Sprint([]*big.Rat(vecOf(r.A, -r.B))) + "\n"
	}
	return text
}

func saidGens(g api.Gens, err error) string {
	if err == api.ErrBound {
		return "bound"
	}
	text := ""
	for _, x := range g.Points {
		text += "point" + fmt.Sprint([]*big.Rat(vecOf(x.X, x.Den))) + "\n"
	}
	for _, r := range g.Rays {
		text += "ray" + fmt.Sprint([]*big.Rat(vecOf(r, 0))) + "\n"
	}
	for _, l := range g.Lines {
		text += "line" + fmt.Sprint([]*big.Rat(vecOf(l, 0))) + "\n"
	}
	return text
}

// wantForm by the words of P31: rows are left out, one by one, without which the same points are left.
func wantForm(dim int, up, even []vec) string {
	rays, lines := makers(dim, up, even)
	if len(rays) == 0 {
		return toldRows(nil, []vec{endless(dim).opposite()})
	}
	isFlat := func(r vec) bool { return !slices.ContainsFunc(rays, func(g vec) bool { return r.side(g) != 0 }) }
	for _, r := range up {
		if isFlat(r) {
			even = append(even[:len(even):len(even)], r)
		}
	}
	even = reduced(even, dim+1)
	var left []vec
	for _, r := range up {
		if !isFlat(r) {
			left = append(left, r.rest(even))
		}
	}
	slices.SortFunc(left, vec.compare)
	left = slices.CompactFunc(left, vec.equal)
	for i := 0; i < len(left); {
		fewer := slices.Delete(slices.Clone(left), i, i+1)
		if more, others := makers(dim, fewer, even); isSame(more, rays) && isSame(others, lines) {
			left = fewer
			continue
		}
		i++
	}
	return toldRows(even, left)
}

// sizes of numbers at random: small ones make rows hang on each other, great ones make answers too great.
func randomSize(r *rand.Rand) int {
	return []int{1, 1, 2, 3, 9, 1000, 1 << 20, most}[r.Intn(8)]
}

func randomList(r *rand.Rand, n, size int) []int {
	l := make([]int, n)
	for i := range l {
		l[i] = (r.Intn(2*size+1) - size) * min(1, r.Intn(4))
	}
	return l
}

func sumOf(a, x []int) int {
	sum := 0
	for i, n := range a {
		sum += n * x[i]
	}
	return sum
}

// randomPoly has rows that mostly hold at one point, many of them at its edge.
func randomPoly(r *rand.Rand, dim, rows int) api.Poly {
	p, size := poly(dim), randomSize(r)
	inside, holds := randomList(r, dim, 2), r.Intn(5) > 0
	for range r.Intn(rows + 1) {
		row := api.Row{Eq: r.Intn(6) == 0, A: randomList(r, dim, size)}
		row.B = sumOf(row.A, inside)
		switch {
		case row.Eq && holds:
		case holds:
			row.B -= r.Intn(size+1) * r.Intn(2)
		default:
			row.B = r.Intn(2*size+1) - size
		}
		row.B = max(-most, min(most, row.B))
		if r.Intn(9) == 0 && len(p.Rows) > 0 {
			row = p.Rows[r.Intn(len(p.Rows))]
		}
		if r.Intn(9) == 0 && len(p.Rows) > 0 {
			row = least(-row.B, opposite(row.A)...)
		}
		p.Rows = append(p.Rows, row)
	}
	return p
}

func opposite(l []int) []int {
	m := slices.Clone(l)
	for i, n := range m {
		m[i] = -n
	}
	return m
}

func randomGens(r *rand.Rand, dim, most int) api.Gens {
	g, size := api.Gens{Dim: dim}, randomSize(r)
	for range r.Intn(most + 1) {
		switch l := randomList(r, dim, size); r.Intn(6) {
		case 0, 1, 2:
			g.Points = append(g.Points, point(1+r.Intn(min(size, 5)), l...))
		case 3, 4:
			g.Rays = append(g.Rays, l)
		case 5:
			if r.Intn(2) == 0 {
				g.Lines = append(g.Lines, l)
			}
		}
	}
	return g
}

// P31, P32, P33: against what is worked out apart.
func TestAlwaysForms(t *testing.T) {
	r := rand.New(rand.NewSource(1))
	ends := map[string]int{}
	for i := range 2000 {
		dim := i % 6
		p := randomPoly(r, dim, 7)
		up, even := rowsOf(p)
		want := wantForm(dim, up, even)
		if got := saidRows(Form(p)); got != want {
			t.Fatal("form", p, got, want)
		}
		rays, lines := makers(dim, up, even)
		made := toldGens(rays, lines)
		if got := saidGens(Generate(p)); got != made {
			t.Fatal("generate", p, got, made)
		}
		if got, err := Empty(p); got != (len(rays) == 0) || err != nil {
			t.Fatal("empty", p, got, err)
		}
		switch {
		case len(rays) == 0:
			ends["nothing"]++
		case want == "bound":
			ends["bound"]++
		case made == "bound":
			ends["rows alone"]++
		default:
			ends["both"]++
		}
	}
	if ends["nothing"] < 100 || ends["bound"] < 5 || ends["rows alone"] < 50 || ends["both"] < 500 {
		t.Error("too few of one kind:", ends)
	}
}

// P33: the other way.
func TestAlwaysConstrain(t *testing.T) {
	r := rand.New(rand.NewSource(2))
	ends := map[string]int{}
	for range 1500 {
		dim := r.Intn(6)
		g := randomGens(r, dim, 8)
		var rays, lines []vec
		for _, x := range g.Points {
			rays = append(rays, vecOf(x.X, x.Den))
		}
		for _, l := range g.Rays {
			rays = append(rays, vecOf(l, 0))
		}
		for _, l := range g.Lines {
			lines = append(lines, vecOf(l, 0))
		}
		up, even := cross(dim+1, rays, lines)
		up = slices.DeleteFunc(up, func(v vec) bool { return v.pivot() == dim })
		if len(g.Points) == 0 {
			up, even = []vec{endless(dim).opposite()}, nil
		}
		want := toldRows(even, up)
		if got := saidRows(Constrain(g)); got != want {
			t.Fatal(g, got, want)
		}
		if want != "bound" {
			want = "told"
		}
		ends[want]++
	}
	if ends["bound"] < 50 || ends["told"] < 500 {
		t.Error("too few of one kind:", ends)
	}
}

// smallPoly, and its form and generators, can be handed in again.
func smallPoly(r *rand.Rand, dim int) (p, form api.Poly, gens api.Gens) {
	for {
		p = randomPoly(r, dim, 8)
		form, err := Form(p)
		gens, fault := Generate(p)
		if err == nil && fault == nil && Valid(form) == nil && ValidGens(gens) == nil {
			return p, form, gens
		}
	}
}

// P35: what Generate tells, Constrain makes the form of; and both forms are their own.
func TestAlwaysThereAndBack(t *testing.T) {
	r := rand.New(rand.NewSource(3))
	for range 2000 {
		p, form, gens := smallPoly(r, r.Intn(6))
		back, err := Constrain(gens)
		if fmt.Sprint(back) != fmt.Sprint(form) || err != nil {
			t.Fatal(p, form, back, err)
		}
		again, err := Generate(form)
		if fmt.Sprint(again) != fmt.Sprint(gens) || err != nil {
			t.Fatal(p, gens, again, err)
		}
		once, err := Form(form)
		if fmt.Sprint(once) != fmt.Sprint(form) || err != nil {
			t.Fatal(p, form, once, err)
		}
	}
}

func times(row api.Row, x int) api.Row {
	l := slices.Clone(row.A)
	for i := range l {
		l[i] *= x
	}
	return api.Row{Eq: row.Eq, A: l, B: x * row.B}
}

// another polyhedron of the same points: rows in another order, times something, with rows that follow, rows with Eq as two without.
func another(r *rand.Rand, p api.Poly) api.Poly {
	q := poly(p.Dim)
	for _, row := range p.Rows {
		switch {
		case row.Eq && r.Intn(2) == 0:
			row.Eq = false
			q.Rows = append(q.Rows, times(row, 1+r.Intn(3)), times(row, -1))
		case row.Eq:
			q.Rows = append(q.Rows, times(row, -1))
		default:
			q.Rows = append(q.Rows, times(row, 1+r.Intn(3)))
		}
	}
	for n := len(q.Rows); n > 0 && len(q.Rows) < n+3; {
		x, y := q.Rows[r.Intn(n)], q.Rows[r.Intn(n)]
		sum := least(x.B+2*y.B-r.Intn(2), make([]int, p.Dim)...)
		for i := range sum.A {
			sum.A[i] = x.A[i] + 2*y.A[i]
		}
		q.Rows = append(q.Rows, sum)
	}
	r.Shuffle(len(q.Rows), func(i, j int) { q.Rows[i], q.Rows[j] = q.Rows[j], q.Rows[i] })
	return q
}

// P35: the same points have the same form.
func TestAlwaysSameForm(t *testing.T) {
	r := rand.New(rand.NewSource(4))
	tried := 0
	for range 2000 {
		p, form, gens := smallPoly(r, r.Intn(6))
		q := another(r, p)
		if Valid(q) != nil {
			continue
		}
		tried++
		got, err := Form(q)
		if fmt.Sprint(got) != fmt.Sprint(form) || err != nil {
			t.Fatal(p, q, form, got, err)
		}
		made, err := Generate(q)
		if fmt.Sprint(made) != fmt.Sprint(gens) || err != nil {
			t.Fatal(p, q, gens, made, err)
		}
		there, _ := Within(p, q)
		back, _ := Within(q, p)
		if !there || !back {
			t.Fatal(p, q, there, back)
		}
	}
	if tried < 1000 {
		t.Error("too few:", tried)
	}
}

// moved by so often a way, which is a ray or a line.
func moved(x api.Point, often int, way []int) api.Point {
	l := slices.Clone(x.X)
	for i := range l {
		l[i] += often * way[i]
	}
	return point(x.Den, l...)
}

// P35: each point is one of the polyhedron, and stays one with any ray and line; and not with what is none.
func TestAlwaysPoints(t *testing.T) {
	r := rand.New(rand.NewSource(5))
	check := func(p api.Poly, x api.Point, want bool) {
		t.Helper()
		got, err := Has(p, x)
		if err != nil && isGreat(x) {
			return
		}
		if got != want || err != nil {
			t.Fatal(p, x, got, err)
		}
	}
	for range 1500 {
		p, _, gens := smallPoly(r, r.Intn(6))
		for _, x := range gens.Points {
			check(p, x, true)
			for _, way := range gens.Rays {
				check(p, moved(x, 1+r.Intn(1000), way), true)
			}
			for _, way := range gens.Lines {
				check(p, moved(x, r.Intn(1000), way), true)
				check(p, moved(x, -r.Intn(1000), way), true)
			}
		}
		if len(gens.Points) == 1 {
			for _, way := range gens.Rays {
				check(p, moved(gens.Points[0], -1, way), false)
			}
		}
	}
}

// P35: none of the generators, and none of the rows, can be left out.
func TestAlwaysNoneInVain(t *testing.T) {
	r := rand.New(rand.NewSource(6))
	for range 500 {
		p, form, gens := smallPoly(r, r.Intn(5))
		for i := range form.Rows {
			fewer := poly(form.Dim, slices.Delete(slices.Clone(form.Rows), i, i+1)...)
			if is, err := Within(fewer, form); is || err != nil {
				t.Fatal(p, form, i, err)
			}
		}
		for i := range gens.Points {
			fewer := gens
			fewer.Points = slices.Delete(slices.Clone(gens.Points), i, i+1)
			if less, err := Constrain(fewer); fmt.Sprint(less) == fmt.Sprint(form) {
				t.Fatal(p, gens, i, less, err)
			}
		}
		for i := range gens.Rays {
			fewer := gens
			fewer.Rays = slices.Delete(slices.Clone(gens.Rays), i, i+1)
			if less, err := Constrain(fewer); fmt.Sprint(less) == fmt.Sprint(form) {
				t.Fatal(p, gens, i, less, err)
			}
		}
	}
}

// P32, P35: Within is an order, and tells of all points.
func TestAlwaysWithin(t *testing.T) {
	r := rand.New(rand.NewSource(7))
	within := func(p, q api.Poly) bool {
		is, err := Within(p, q)
		if err != nil {
			t.Fatal(p, q, err)
		}
		return is
	}
	yes, no := 0, 0
	for range 1500 {
		dim := r.Intn(4)
		p, form, gens := smallPoly(r, dim)
		q, other, _ := smallPoly(r, dim)
		if r.Intn(2) == 0 {
			q.Rows = append(q.Rows[:r.Intn(len(q.Rows)+1)], p.Rows...)
			other, _ = Form(q)
		}
		isIn, isOver := within(p, q), within(q, p)
		if !within(p, p) || (isIn && isOver) != (fmt.Sprint(form) == fmt.Sprint(other)) {
			t.Fatal(p, q, isIn, isOver)
		}
		if want := holdsAll(gens, q); isIn != want {
			t.Fatal(p, q, isIn, want)
		}
		last, _, _ := smallPoly(r, dim)
		if isIn && within(q, last) && !within(p, last) {
			t.Fatal(p, q, last)
		}
		if isIn {
			yes++
		} else {
			no++
		}
	}
	if yes < 300 || no < 300 {
		t.Error("too few of one kind:", yes, no)
	}
}

// holdsAll tells whether what makes a polyhedron keeps to all rows of q.
func holdsAll(g api.Gens, q api.Poly) bool {
	var ways []vec
	for _, x := range g.Points {
		ways = append(ways, vecOf(x.X, x.Den))
	}
	for _, l := range g.Rays {
		ways = append(ways, vecOf(l, 0))
	}
	for _, l := range g.Lines {
		ways = append(ways, vecOf(l, 0), vecOf(opposite(l), 0))
	}
	up, even := rowsOf(q)
	for _, x := range ways {
		if slices.ContainsFunc(up, func(v vec) bool { return v.side(x) < 0 }) || slices.ContainsFunc(even, func(v vec) bool { return v.side(x) != 0 }) {
			return false
		}
	}
	return true
}

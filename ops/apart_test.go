package ops

import (
	"fmt"
	"math/big"
	"math/rand"
	"slices"

	"raycone/api"
)

// Answers that are worked out apart from the program: of fractions, by the words of the document, each choice of rows tried.

type vec []*big.Rat

func vecOf(l []int, last int) vec {
	var v vec
	for _, n := range append(slices.Clone(l), last) {
		v = append(v, big.NewRat(int64(n), 1))
	}
	return v
}

func (v vec) dot(w vec) *big.Rat {
	sum := new(big.Rat)
	for i, n := range v {
		sum.Add(sum, new(big.Rat).Mul(n, w[i]))
	}
	return sum
}

func (v vec) side(w vec) int { return v.dot(w).Sign() }

// plus x times w.
func (v vec) plus(x *big.Rat, w vec) vec {
	var sum vec
	for i, n := range v {
		sum = append(sum, new(big.Rat).Add(n, new(big.Rat).Mul(x, w[i])))
	}
	return sum
}

func (v vec) opposite() vec { return v.plus(big.NewRat(-2, 1), v) }

func (v vec) pivot() int {
	return slices.IndexFunc(v, func(n *big.Rat) bool { return n.Sign() != 0 })
}

// normal: whole numbers with nothing that divides all of them.
func (v vec) normal() vec {
	den, divisor := big.NewInt(1), new(big.Int)
	for _, n := range v {
		den.Mul(den, n.Denom())
	}
	for _, n := range v {
		whole := new(big.Rat).Mul(n, new(big.Rat).SetInt(den))
		divisor.GCD(nil, nil, divisor, new(big.Int).Abs(whole.Num()))
	}
	if divisor.Sign() == 0 {
		return v
	}
	by := new(big.Rat).SetFrac(den, divisor)
	return v.plus(by.Sub(by, big.NewRat(1, 1)), v)
}

func (v vec) compare(w vec) int { return slices.CompareFunc(v, w, (*big.Rat).Cmp) }

func (v vec) equal(w vec) bool { return v.compare(w) == 0 }

func isSame(l, m []vec) bool { return slices.EqualFunc(l, m, vec.equal) }

// reduced rows, with pivots of 1.
func reduced(m []vec, width int) []vec {
	l := slices.Clone(m)
	done := 0
	for column := range width {
		at := slices.IndexFunc(l[done:], func(v vec) bool { return v[column].Sign() != 0 })
		if at < 0 {
			continue
		}
		l[done], l[done+at] = l[done+at], l[done]
		by := new(big.Rat).Inv(l[done][column])
		l[done] = l[done].plus(by.Sub(by, big.NewRat(1, 1)), l[done])
		for i, v := range l {
			if i != done && v[column].Sign() != 0 {
				l[i] = v.plus(new(big.Rat).Neg(v[column]), l[done])
			}
		}
		done++
	}
	return l[:done]
}

// flatOn: what makes all x on which each row of m is 0.
func flatOn(m []vec, width int) []vec {
	m = reduced(m, width)
	var l []vec
	for column := range width {
		if slices.ContainsFunc(m, func(v vec) bool { return v.pivot() == column }) {
			continue
		}
		x := vecOf(make([]int, width-1), 0)
		x[column].SetInt64(1)
		for _, v := range m {
			x[v.pivot()].Neg(v[column])
		}
		l = append(l, x)
	}
	return l
}

// rest of v with 0 in the pivots' columns of reduced rows.
func (v vec) rest(m []vec) vec {
	for _, by := range m {
		v = v.plus(new(big.Rat).Neg(v[by.pivot()]), by)
	}
	return v.normal()
}

// choices puts each choice of n rows of m, with those chosen ahead, through take.
func choices(m []vec, n int, chosen []vec, take func([]vec)) {
	if n == 0 {
		take(chosen)
		return
	}
	for i := range m {
		choices(m[i+1:], n-1, append(chosen[:len(chosen):len(chosen)], m[i]), take)
	}
}

// cross tells the rays and lines of the cone of rows: or the rows of the cone of rays and lines.
func cross(width int, up, even []vec) (rays, lines []vec) {
	lines = reduced(flatOn(slices.Concat(up, even), width), width)
	flat := slices.Clone(even)
	for _, l := range lines {
		unit := vecOf(make([]int, width-1), 0)
		unit[l.pivot()].SetInt64(1)
		flat = append(flat, unit)
	}
	flat = reduced(flat, width)
	take := func(m []vec) {
		left := flatOn(m, width)
		if len(left) != 1 {
			return
		}
		for _, x := range []vec{left[0], left[0].opposite()} {
			if !slices.ContainsFunc(up, func(r vec) bool { return r.side(x) < 0 }) {
				rays = append(rays, x.normal())
			}
		}
	}
	if open := width - 1 - len(flat); open >= 0 {
		choices(up, open, flat, take)
	}
	slices.SortFunc(rays, vec.compare)
	return slices.CompactFunc(rays, vec.equal), lines
}

func endless(dim int) vec { return vecOf(make([]int, dim), 1) }

func isOpen(v vec) bool { return v[len(v)-1].Sign() == 0 }

func rowsOf(p api.Poly) (up, even []vec) {
	for _, r := range p.Rows {
		if r.Eq {
			even = append(even, vecOf(r.A, -r.B))
		} else {
			up = append(up, vecOf(r.A, -r.B))
		}
	}
	return up, even
}

// makers of a polyhedron by rows: points and rays, and lines; without points there is nothing.
func makers(dim int, up, even []vec) (rays, lines []vec) {
	rays, lines = cross(dim+1, append(slices.Clone(up), endless(dim)), even)
	if !slices.ContainsFunc(rays, func(v vec) bool { return !isOpen(v) }) {
		return nil, nil
	}
	return rays, lines
}

// told: lines of text, of as many kinds of rows, or an error.
func told(names []string, kinds ...[]vec) string {
	n, text := 0, ""
	for i, l := range kinds {
		for _, v := range l {
			for _, x := range v {
				if x.Num().CmpAbs(big.NewInt(api.MaxTold)) > 0 {
					return "bound"
				}
			}
			text += names[i] + fmt.Sprint([]*big.Rat(v)) + "\n"
			n++
		}
	}
	if n > api.MaxMany {
		return "bound"
	}
	return text
}

func normals(l []vec) []vec {
	var m []vec
	for _, v := range l {
		m = append(m, v.normal())
	}
	return m
}

func toldRows(even, up []vec) string { return told([]string{"=", ">="}, normals(even), up) }

// saidRows: what the program says, in the same words.
func saidRows(p api.Poly, err error) string {
	if err == api.ErrBound {
		return "bound"
	}
	text := ""
	for _, r := range p.Rows {
		name := ">="
		if r.Eq {
			name = "="
		}
		text += name + fmt.Sprint([]*big.Rat(vecOf(r.A, -r.B))) + "\n"
	}
	return text
}

// formOf rows, by the words of P31: rows are left out, one by one, without which the same points are left.
func formOf(dim int, up, even []vec) (formUp, formEven []vec) {
	rays, lines := makers(dim, up, even)
	if len(rays) == 0 {
		return []vec{endless(dim).opposite()}, nil
	}
	isFlat := func(r vec) bool { return !slices.ContainsFunc(rays, func(g vec) bool { return r.side(g) != 0 }) }
	for _, r := range up {
		if isFlat(r) {
			even = append(even[:len(even):len(even)], r)
		}
	}
	even = reduced(even, dim+1)
	var left []vec
	for _, r := range up {
		if !isFlat(r) {
			left = append(left, r.rest(even))
		}
	}
	slices.SortFunc(left, vec.compare)
	left = slices.CompactFunc(left, vec.equal)
	for i := 0; i < len(left); {
		fewer := slices.Delete(slices.Clone(left), i, i+1)
		if more, others := makers(dim, fewer, even); isSame(more, rays) && isSame(others, lines) {
			left = fewer
			continue
		}
		i++
	}
	return left, even
}

func wantForm(dim int, up, even []vec) string {
	up, even = formOf(dim, up, even)
	return toldRows(even, up)
}

// sizes of numbers at random: small ones make rows hang on each other, great ones make answers too great.
func randomSize(r *rand.Rand) int {
	return []int{1, 1, 2, 3, 9, 1000, 1 << 20, most}[r.Intn(8)]
}

func randomList(r *rand.Rand, n, size int) []int {
	l := make([]int, n)
	for i := range l {
		l[i] = (r.Intn(2*size+1) - size) * min(1, r.Intn(4))
	}
	return l
}

func sumOf(a, x []int) int {
	sum := 0
	for i, n := range a {
		sum += n * x[i]
	}
	return sum
}

// randomPoly has rows that mostly hold at one point, many of them at its edge.
func randomPoly(r *rand.Rand, dim, rows int) api.Poly {
	p, size := made(dim), randomSize(r)
	inside, holds := randomList(r, dim, 2), r.Intn(5) > 0
	for range r.Intn(rows + 1) {
		row := api.Row{Eq: r.Intn(6) == 0, A: randomList(r, dim, size)}
		row.B = sumOf(row.A, inside)
		switch {
		case row.Eq && holds:
		case holds:
			row.B -= r.Intn(size+1) * r.Intn(2)
		default:
			row.B = r.Intn(2*size+1) - size
		}
		row.B = max(-most, min(most, row.B))
		if r.Intn(9) == 0 && len(p.Rows) > 0 {
			row = p.Rows[r.Intn(len(p.Rows))]
		}
		if r.Intn(9) == 0 && len(p.Rows) > 0 {
			row = least(-row.B, opposite(row.A)...)
		}
		p.Rows = append(p.Rows, row)
	}
	return p
}

func opposite(l []int) []int {
	m := slices.Clone(l)
	for i, n := range m {
		m[i] = -n
	}
	return m
}

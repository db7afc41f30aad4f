package joins

import (
	"math/rand"
	"slices"
	"strconv"
	"strings"

	"raycone/api"
	"raycone/exact"
	"raycone/poly"
	"raycone/wide"
)

// maker of polyhedra at random.
type maker struct{ *rand.Rand }

func makerOf(seed int64) maker { return maker{rand.New(rand.NewSource(seed))} }

// of some names.
func (m maker) of() string {
	l := m.Perm(5)[:m.Intn(6)]
	slices.Sort(l)
	s := ""
	for _, n := range l {
		s += "xyzwv"[n : n+1]
	}
	return s
}

func (m maker) number() int {
	if m.Intn(12) == 0 {
		return m.Intn(1<<20) - 1<<19
	}
	return m.Intn(9) - 4
}

// points at random.
func (m maker) points(dim int) [][]int {
	l := make([][]int, 1+m.Intn(4))
	for i := range l {
		for range dim {
			l[i] = append(l[i], m.number())
		}
	}
	return l
}

// poly that has some points, by rows at random that touch one of them or not.
func (m maker) poly(dim int) exact.Poly {
	p, points := api.Poly{Dim: dim}, m.points(dim)
	for range m.Intn(8) {
		r := api.Row{Eq: m.Intn(5) == 0, A: make([]int, dim)}
		for range 1 + m.Intn(3) {
			if dim > 0 {
				r.A[m.Intn(dim)] = m.Intn(7) - 3
			}
		}
		least, most := 1<<40, -1<<40
		for _, x := range points {
			sum := 0
			for i, n := range x {
				sum += n * r.A[i]
			}
			least, most = min(least, sum), max(most, sum)
		}
		if r.B = least; least < most {
			r.Eq = false
			r.B -= m.Intn(3)
		}
		p.Rows = append(p.Rows, r)
	}
	return exact.Of(p)
}

// round polyhedron around 0, of so many sides, none of which makes another one needless.
func (m maker) round(dim, sides int) api.Poly {
	p := api.Poly{Dim: dim}
	for range sides {
		r, square, side := api.Row{A: make([]int, dim)}, 0, 0
		for x := range dim {
			r.A[x] = m.Intn(19) - 9
			square += r.A[x] * r.A[x]
		}
		for side*side < 1_000_000*square {
			side++
		}
		r.B = -side
		p.Rows = append(p.Rows, r)
	}
	return p
}

// signs: each of so many variables is 0, one way and the other.
func signs(dim int) []wide.Row {
	var l []wide.Row
	for way := 1; way >= -1; way -= 2 {
		for x := range dim {
			r := make([]int, dim+1)
			r[x] = way
			l = append(l, wide.RowOf(r))
		}
	}
	return l
}

// side of a row, as "2x -y 3": how often it has each of the names, and what it adds.
func side(of, s string) ([]int, int) {
	times, more := make([]int, len(of)), 0
	for _, part := range strings.Fields(s) {
		number := strings.TrimRight(part, of)
		if number == "" || number == "-" {
			number += "1"
		}
		n, err := strconv.Atoi(number)
		if err != nil {
			panic(s)
		}
		if x := strings.IndexByte(of, part[len(part)-1]); x >= 0 {
			times[x] += n
		} else {
			more += n
		}
	}
	return times, more
}

// loose polyhedron by rows of the names, as "2x -y <= 3, z = 1". "none" is nothing.
func loose(of, s string) api.Poly {
	p := api.Poly{Dim: len(of)}
	if s == "none" {
		return api.Poly{Dim: len(of), Rows: []api.Row{{A: make([]int, len(of)), B: 1}}}
	}
	if s == "" {
		return p
	}
	for _, text := range strings.Split(s, ",") {
		at := strings.IndexAny(text, "<>=")
		if at < 0 {
			panic(s)
		}
		a, more := side(of, text[:at])
		b, less := side(of, strings.TrimLeft(text[at:], "<>="))
		if text[at] == '<' {
			a, more, b, less = b, less, a, more
		}
		for i, n := range b {
			a[i] -= n
		}
		p.Rows = append(p.Rows, api.Row{Eq: text[at] == '=', A: a, B: less - more})
	}
	return p
}

// formed: the same polyhedron, in form.
func formed(of, s string) api.Poly {
	p, err := poly.Form(loose(of, s))
	if err != nil {
		panic(s)
	}
	return p
}

// said rows of the names.
func said(of string, p api.Poly) string {
	var l []string
	for _, r := range p.Rows {
		s := ""
		for x, n := range r.A {
			if n != 0 {
				s += strconv.Itoa(n) + of[x:x+1] + " "
			}
		}
		rel := ">= "
		if r.Eq {
			rel = "= "
		}
		l = append(l, s+rel+strconv.Itoa(r.B))
	}
	return strconv.Itoa(p.Dim) + ": " + strings.Join(l, ", ")
}

func same(p, q api.Poly) bool {
	return p.Dim == q.Dim && slices.EqualFunc(p.Rows, q.Rows, func(a, b api.Row) bool { return a.Eq == b.Eq && a.B == b.B && slices.Equal(a.A, b.A) })
}

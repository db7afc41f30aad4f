package cone

import (
	"fmt"
	"math/big"
	"math/rand"
	"slices"
	"testing"

	"raycone/api"
)

// matrix of fractions, for answers that are worked out apart from the program.
type matrix [][]*big.Rat

func matrixOf(kinds ...[][]int) matrix {
	var m matrix
	for _, r := range slices.Concat(kinds...) {
		row := make([]*big.Rat, len(r))
		for i, n := range r {
			row[i] = new(big.Rat).SetInt64(int64(n))
		}
		m = append(m, row)
	}
	return m
}

// reduced rows with pivots 1, and the columns of the pivots.
func (m matrix) reduced(dim int) (matrix, []int) {
	var l matrix
	for _, r := range m {
		row := make([]*big.Rat, dim)
		for i, n := range r {
			row[i] = new(big.Rat).Set(n)
		}
		l = append(l, row)
	}
	var pivots []int
	for column := range dim {
		done := len(pivots)
		at := slices.IndexFunc(l[done:], func(r []*big.Rat) bool { return r[column].Sign() != 0 })
		if at < 0 {
			continue
		}
		l[done], l[done+at] = l[done+at], l[done]
		by := new(big.Rat).Inv(l[done][column])
		for _, n := range l[done] {
			n.Mul(n, by)
		}
		for i, r := range l {
			often := new(big.Rat).Set(r[column])
			for j, n := range r {
				if i != done {
					n.Sub(n, new(big.Rat).Mul(often, l[done][j]))
				}
			}
		}
		pivots = append(pivots, column)
	}
	return l[:len(pivots)], pivots
}

// flat: rows that make all x on which each row of m is 0.
func (m matrix) flat(dim int) matrix {
	reduced, pivots := m.reduced(dim)
	var l matrix
	for column := range dim {
		if slices.Contains(pivots, column) {
			continue
		}
		row := make([]*big.Rat, dim)
		for i := range row {
			row[i] = new(big.Rat)
		}
		row[column].SetInt64(1)
		for i, pivot := range pivots {
			row[pivot].Neg(reduced[i][column])
		}
		l = append(l, row)
	}
	return l
}

// normal row of whole numbers.
func normal(row []*big.Rat) []*big.Int {
	den, divisor := big.NewInt(1), new(big.Int)
	for _, n := range row {
		g := new(big.Int).GCD(nil, nil, den, n.Denom())
		den.Mul(den, new(big.Int).Quo(n.Denom(), g))
	}
	l := make([]*big.Int, len(row))
	for i, n := range row {
		l[i] = new(big.Int).Quo(new(big.Int).Mul(n.Num(), den), n.Denom())
		divisor.GCD(nil, nil, divisor, new(big.Int).Abs(l[i]))
	}
	for _, n := range l {
		n.Quo(n, divisor)
	}
	return l
}

func dot(a, b []*big.Rat) *big.Rat {
	sum := new(big.Rat)
	for i, n := range a {
		sum.Add(sum, new(big.Rat).Mul(n, b[i]))
	}
	return sum
}

// edges puts each choice of n rows of m through take.
func edges(m matrix, n int, chosen matrix, take func(matrix)) {
	if n == 0 {
		take(chosen)
		return
	}
	for i, r := range m {
		edges(m[i+1:], n-1, append(chosen[:len(chosen):len(chosen)], r), take)
	}
}

// want is the answer that P21 and P22 ask for: each choice of rows that leaves one direction is tried.
func want(dim int, one, both [][]int) (string, error) {
	lines, pivots := matrixOf(one, both).flat(dim).reduced(dim)
	up, flat := matrixOf(one), matrixOf(both)
	for _, at := range pivots {
		unit := make([]int, dim)
		unit[at] = 1
		flat = append(flat, matrixOf([][]int{unit})...)
	}
	flat, pivots = flat.reduced(dim)
	var rays []([]*big.Int)
	if open := dim - 1 - len(pivots); open >= 0 {
		edges(up, open, flat, func(m matrix) {
			left := m.flat(dim)
			if len(left) != 1 {
				return
			}
			for range 2 {
				if !slices.ContainsFunc(up, func(r []*big.Rat) bool { return dot(r, left[0]).Sign() < 0 }) {
					rays = append(rays, normal(left[0]))
				}
				for _, n := range left[0] {
					n.Neg(n)
				}
			}
		})
	}
	compare := func(a, b []*big.Int) int { return slices.CompareFunc(a, b, (*big.Int).Cmp) }
	slices.SortFunc(rays, compare)
	rays = slices.CompactFunc(rays, func(a, b []*big.Int) bool { return compare(a, b) == 0 })
	return told(rays, lines)
}

func told(rays [][]*big.Int, reduced matrix) (string, error) {
	var lines [][]*big.Int
	for _, r := range reduced {
		lines = append(lines, normal(r))
	}
	great := func(l []*big.Int) bool {
		return slices.ContainsFunc(l, func(n *big.Int) bool { return n.CmpAbs(big.NewInt(api.MaxTold)) > 0 })
	}
	if len(rays)+len(lines) > api.MaxMany || slices.ContainsFunc(rays, great) || slices.ContainsFunc(lines, great) {
		return "[] []", api.ErrBound
	}
	return fmt.Sprint(rays, lines), nil
}

// sizes of numbers at random: small ones make rows hang on each other, great ones make answers too great.
var sizes = []int{1, 1, 2, 3, 9, 1000, 1 << 20, api.MaxEntry}

func randomRow(r *rand.Rand, dim, size int) []int {
	l := make([]int, dim)
	for i := range l {
		l[i] = r.Intn(2*size+1) - size
	}
	return l
}

// randomKinds are rows of both kinds. Many of them hold at one point, so that not all cones are 0 alone.
func randomKinds(r *rand.Rand, dim, most int) (one, both [][]int) {
	size := sizes[r.Intn(len(sizes))]
	inside := randomRow(r, dim, 2)
	turned := r.Intn(4) > 0
	for range r.Intn(most + 1) {
		l := randomRow(r, dim, size)
		sum := 0
		for i, n := range l {
			sum += n * inside[i]
		}
		for i, n := range l {
			if turned && sum < 0 {
				l[i] = -n
			}
		}
		if r.Intn(8) == 0 && len(one) > 0 {
			l = slices.Clone(one[r.Intn(len(one))])
		}
		one = append(one, l)
	}
	for range r.Intn(dim+2) - dim/2 {
		both = append(both, randomRow(r, dim, size))
	}
	return one, both
}

// P22, P24: both ways, against each choice of rows.
func TestAlwaysTurned(t *testing.T) {
	r := rand.New(rand.NewSource(2))
	ends := map[error]int{}
	for i := range 3000 {
		dim := r.Intn(api.MaxDim + 2)
		most := 9
		if i%100 == 0 {
			most = 13
		}
		one, both := randomKinds(r, dim, most)
		text, fault := want(dim, one, both)
		ends[fault]++
		rays, err := Generate(Cone{dim, one, both})
		if got := fmt.Sprint(rays.Rays, rays.Lines); got != text || err != fault || err == nil && rays.Dim != dim {
			t.Fatal("generate", dim, one, both, got, err, text, fault)
		}
		rows, err := Constrain(Rays{dim, one, both})
		if got := fmt.Sprint(rows.Up, rows.Even); got != text || err != fault || err == nil && rows.Dim != dim {
			t.Fatal("constrain", dim, one, both, got, err, text, fault)
		}
	}
	if ends[nil] < 1000 || ends[api.ErrBound] < 100 {
		t.Error("too few of one kind:", ends)
	}
}

// smallCone has numbers that stay small enough to be handed in again.
func smallCone(r *rand.Rand) Cone {
	for {
		dim := r.Intn(api.MaxDim + 2)
		one, both := randomKinds(r, dim, 7)
		c := Cone{dim, one, both}
		rays, err := Generate(c)
		if err != nil || ValidRays(rays) != nil {
			continue
		}
		if rows, err := Constrain(rays); err == nil && ValidCone(rows) == nil {
			return c
		}
	}
}

// P21, P24: there and back is the form, and the form is its own.
func TestAlwaysThereAndBack(t *testing.T) {
	r := rand.New(rand.NewSource(3))
	for range 2000 {
		c := smallCone(r)
		rays, _ := Generate(c)
		form, _ := Constrain(rays)
		text, fault := want(c.Dim, rays.Rays, rays.Lines)
		if got := fmt.Sprint(form.Up, form.Even); got != text || fault != nil {
			t.Fatal(c, got, text)
		}
		again, err := Generate(form)
		if fmt.Sprint(again) != fmt.Sprint(rays) || err != nil {
			t.Fatal(c, rays, again, err)
		}
		back, err := Constrain(again)
		if fmt.Sprint(back) != fmt.Sprint(form) || err != nil {
			t.Fatal(c, form, back, err)
		}
	}
}

// same cone, by other rows: in another order, times something, with rows that follow, and rows both ways as two of them.
func same(r *rand.Rand, c Cone) Cone {
	times := func(l []int, x int) []int {
		m := slices.Clone(l)
		for i := range m {
			m[i] *= x
		}
		return m
	}
	d := Cone{Dim: c.Dim}
	for _, l := range c.Up {
		d.Up = append(d.Up, times(l, 1+r.Intn(3)))
	}
	for _, l := range c.Even {
		if r.Intn(2) == 0 {
			d.Up = append(d.Up, times(l, 1), times(l, -2))
			continue
		}
		d.Even = append(d.Even, times(l, 1-2*r.Intn(2)))
	}
	for n := len(d.Up); n > 0 && len(d.Up) < n+4; {
		sum := times(d.Up[r.Intn(n)], 2)
		for i, x := range d.Up[r.Intn(n)] {
			sum[i] += x
		}
		d.Up = append(d.Up, sum)
	}
	r.Shuffle(len(d.Up), func(i, j int) { d.Up[i], d.Up[j] = d.Up[j], d.Up[i] })
	r.Shuffle(len(d.Even), func(i, j int) { d.Even[i], d.Even[j] = d.Even[j], d.Even[i] })
	return d
}

// P21: what is the same cone has the same form.
func TestAlwaysSameForm(t *testing.T) {
	r := rand.New(rand.NewSource(4))
	for range 2000 {
		c := smallCone(r)
		d := same(r, c)
		if ValidCone(d) != nil {
			continue
		}
		x, _ := Generate(c)
		y, err := Generate(d)
		if fmt.Sprint(x) != fmt.Sprint(y) || err != nil {
			t.Fatal(c, d, x, y, err)
		}
		v, _ := Constrain(asRays(c))
		w, err := Constrain(asRays(d))
		if fmt.Sprint(v) != fmt.Sprint(w) || err != nil {
			t.Fatal(c, d, v, w, err)
		}
	}
}

// asRays takes the rows of a cone for rays of another one.
func asRays(c Cone) Rays { return Rays{c.Dim, c.Up, c.Even} }

// P21: none of the rays can be left out.
func TestAlwaysNoneInVain(t *testing.T) {
	r := rand.New(rand.NewSource(5))
	for range 500 {
		rays, _ := Generate(smallCone(r))
		whole, _ := Constrain(rays)
		for i := range rays.Rays {
			fewer := rays
			fewer.Rays = slices.Delete(slices.Clone(rays.Rays), i, i+1)
			if less, err := Constrain(fewer); fmt.Sprint(less) == fmt.Sprint(whole) || err != nil {
				t.Fatal(rays, i, less, err)
			}
		}
	}
}

func opposite(l []int) []int {
	m := slices.Clone(l)
	for i, n := range m {
		m[i] = -n
	}
	return m
}

// P24: rays and lines are points of the cone, lines both ways.
func TestAlwaysPoints(t *testing.T) {
	r := rand.New(rand.NewSource(6))
	for range 1000 {
		c := smallCone(r)
		rays, _ := Generate(c)
		points := slices.Concat(rays.Rays, rays.Lines)
		for _, l := range rays.Lines {
			points = append(points, opposite(l))
		}
		for _, x := range points {
			if is, err := Has(c, x); !is || err != nil {
				t.Fatal(c, x, is, err)
			}
		}
		for _, x := range rays.Rays {
			if is, err := Has(c, opposite(x)); is || err != nil {
				t.Fatal("a ray that is a line:", c, x, is, err)
			}
		}
	}
}

// P24: x is a point of the cone just if it is a sum of rays and lines; else some row that holds for all of these fails at x.
func TestAlwaysFarkas(t *testing.T) {
	r := rand.New(rand.NewSource(7))
	in, out := 0, 0
	for range 1000 {
		c := smallCone(r)
		rays, _ := Generate(c)
		form, _ := Constrain(rays)
		if len(rays.Rays)+len(rays.Lines) >= api.MaxRows {
			continue
		}
		for range 10 {
			x := randomRow(r, c.Dim, 2)
			is, err := Has(c, x)
			if err != nil {
				t.Fatal(c, x, err)
			}
			more := rays
			more.Rays = append(slices.Clone(rays.Rays), x)
			wider, err := Constrain(more)
			isSum := fmt.Sprint(wider) == fmt.Sprint(form)
			holds, _ := Has(form, x)
			if err == nil && is != isSum || is != holds {
				t.Fatal(c, x, is, isSum, holds)
			}
			if is {
				in++
			} else {
				out++
			}
		}
	}
	if in < 500 || out < 500 {
		t.Error("too few of one kind:", in, out)
	}
}

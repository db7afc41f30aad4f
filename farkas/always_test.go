package farkas

import (
	"math/big"
	"math/rand"
	"strconv"
	"testing"

	"raycone/api"
	"raycone/exact"
	"raycone/ops"
	"raycone/poly"
	"raycone/wide"
)

func randomList(r *rand.Rand, n, size int) []int {
	l := make([]int, n)
	for i := range l {
		l[i] = r.Intn(2*size+1) - size
	}
	return l
}

// randomPoly of up to so many rows; the higher low is, the more often it has points.
func randomPoly(r *rand.Rand, dim, rows, size, low int) api.Poly {
	p := made(dim)
	for range r.Intn(rows + 1) {
		p.Rows = append(p.Rows, api.Row{Eq: r.Intn(8) == 0, A: randomList(r, dim, size), B: max(-size, r.Intn(2*size+1)-size-r.Intn(low+1))})
	}
	return p
}

// randomRow, often a sum of rows of p, or one that asks a little more.
func randomRow(r *rand.Rand, p api.Poly, size int) api.Row {
	row := api.Row{A: randomList(r, p.Dim, size), B: r.Intn(2*size+1) - size}
	if len(p.Rows) == 0 || r.Intn(3) == 0 {
		return row
	}
	sum := api.Row{A: make([]int, p.Dim)}
	for range 1 + r.Intn(3) {
		other, often := p.Rows[r.Intn(len(p.Rows))], r.Intn(3)
		for i, n := range other.A {
			sum.A[i] += often * n
		}
		sum.B += often * other.B
	}
	sum.B += r.Intn(5) - 2
	if isGreat(sum) {
		return row
	}
	return sum
}

// kinds of answers, so that none is tried too seldom.
type kinds map[string]int

func (k kinds) check(t *testing.T, least int, names ...string) {
	t.Helper()
	for _, name := range names {
		if k[name] < least {
			t.Error("too few of one kind:", k)
		}
	}
}

// checkOne asks whether a row follows, and holds it against what the generators say. Each proof is put to the test apart.
func checkOne(t *testing.T, p api.Poly, r api.Row) string {
	t.Helper()
	whole := exact.Of(p)
	want := whole.Holds(r)
	f, is, err := Follow(p, r)
	switch {
	case err == api.ErrBound && want && !is && len(f.Weights) == 0 && f.Den == 0:
		return "bound"
	case err != nil || is != want:
		t.Fatal(p, r, f, is, err)
	case !is:
		return "no"
	}
	if right, err := Check(p, r, f); !right || err != nil || !proves(p, r, f) {
		t.Fatal(p, r, f, right, err)
	}
	if whole.Empty() {
		return "nothing"
	}
	return "yes"
}

// proves tells by the words of P50 whether f is a proof.
func proves(p api.Poly, r api.Row, f Proof) bool {
	if f.Den < 1 || f.Den > api.MaxTold || len(f.Weights) != len(p.Rows) {
		return false
	}
	w := make([]*big.Int, p.Dim+1)
	for i := range w {
		w[i] = new(big.Int)
	}
	add := func(row api.Row, weight int) {
		for i, n := range append(row.A[:p.Dim:p.Dim], row.B) {
			w[i].Add(w[i], new(big.Int).Mul(big.NewInt(int64(n)), big.NewInt(int64(weight))))
		}
	}
	alone := func() bool {
		for _, n := range w[:p.Dim] {
			if n.Sign() != 0 {
				return false
			}
		}
		return true
	}
	for i, row := range p.Rows {
		if n := f.Weights[i]; n < 0 && !row.Eq || n > api.MaxTold || n < -api.MaxTold {
			return false
		}
		add(row, f.Weights[i])
	}
	nothing := alone() && w[p.Dim].Sign() > 0
	add(r, -f.Den)
	return nothing || alone() && w[p.Dim].Sign() >= 0
}

// P51, P53: there is a proof just if no point fails the row.
func TestAlwaysFollow(t *testing.T) {
	r, seen := rand.New(rand.NewSource(1)), kinds{}
	for _, size := range []int{1, 3, 20} {
		for range 4000 {
			p := randomPoly(r, r.Intn(6), 9, size, 3*size)
			seen[checkOne(t, p, randomRow(r, p, size))]++
		}
	}
	seen.check(t, 500, "yes", "no", "nothing")
	if seen["bound"] > 0 {
		t.Error(seen)
	}
}

// P50: proofs, and such that are a little beside one.
func TestAlwaysCheck(t *testing.T) {
	r, seen := rand.New(rand.NewSource(6)), kinds{}
	for range 6000 {
		p := randomPoly(r, r.Intn(4), 5, 3, 6)
		row := randomRow(r, p, 3)
		f, is, err := Follow(p, row)
		if err != nil {
			t.Fatal(p, row, err)
		}
		if !is {
			f = Proof{randomList(r, len(p.Rows), 2), 1 + r.Intn(2)}
		}
		switch at := r.Intn(len(p.Rows) + 3); {
		case at < len(p.Rows):
			f.Weights[at] += r.Intn(3) - 1
		case at == len(p.Rows):
			f.Den += r.Intn(2)
		case at == len(p.Rows)+1:
			row.B += r.Intn(3) - 1
		}
		want := proves(p, row, f)
		if got, err := Check(p, row, f); got != want || err != nil {
			t.Fatal(p, row, f, got, err)
		}
		if want && !exact.Of(p).Holds(row) {
			t.Fatal(p, row, f)
		}
		seen[strconv.FormatBool(want)]++
	}
	seen.check(t, 1000, "true", "false")
}

// P51: never ErrBound where all numbers are at most 100, however many rows there are.
func TestAlwaysTold(t *testing.T) {
	r, seen := rand.New(rand.NewSource(2)), kinds{}
	edge := func(l []int) {
		for i := range l {
			l[i] = (100 - r.Intn(3)) * (2*r.Intn(2) - 1)
		}
	}
	for i := range 3000 {
		p := randomPoly(r, 5, 24, 100, 100*(i%3))
		row := api.Row{A: randomList(r, 5, 100), B: r.Intn(101) - 100}
		if i%2 == 0 {
			for _, other := range p.Rows {
				edge(other.A)
			}
			edge(row.A)
		}
		seen[checkOne(t, p, row)]++
	}
	seen.check(t, 100, "yes", "no", "nothing")
	if seen["bound"] > 0 {
		t.Error(seen)
	}
}

// P51: with great numbers there is a proof, or ErrBound; a row of the polyhedron always has one.
func TestAlwaysGreat(t *testing.T) {
	r, seen := rand.New(rand.NewSource(3)), kinds{}
	for range 600 {
		p := randomPoly(r, 1+r.Intn(5), 9, most, most)
		seen[checkOne(t, p, randomRow(r, p, most))]++
		for _, row := range p.Rows {
			row.Eq = false
			if kind := checkOne(t, p, row); kind == "bound" || kind == "no" {
				t.Fatal(p, row, kind)
			}
		}
	}
	seen.check(t, 30, "yes", "no", "nothing", "bound")
}

// lastRows of p, or all there are, in one row.
func lastRows(p api.Poly, many int) api.Row {
	sum := api.Row{A: make([]int, p.Dim)}
	for _, row := range p.Rows[max(0, len(p.Rows)-many):] {
		for i, n := range row.A {
			sum.A[i] += n
		}
		sum.B += row.B
	}
	return sum
}

// P51: so has the sum of some rows, as many as there are dimensions at most, however great the numbers of other proofs are; and so has anything, where with one more they are nothing.
func TestAlwaysGreatSum(t *testing.T) {
	r := rand.New(rand.NewSource(7))
	for range 300 {
		p := randomPoly(r, 2+r.Intn(4), 10, most/5, most)
		sum := lastRows(p, p.Dim)
		if kind := checkOne(t, p, sum); kind == "bound" || kind == "no" {
			t.Fatal(p, sum, kind)
		}
		opposite := api.Row{A: make([]int, p.Dim), B: 1 - sum.B}
		for i, n := range sum.A {
			opposite.A[i] = -n
		}
		p.Rows = append(p.Rows, opposite)
		if kind := checkOne(t, p, least(most, randomList(r, p.Dim, most)...)); kind != "nothing" {
			t.Fatal(p, kind)
		}
	}
}

// P1: calls end also with as many rows and as great numbers as may be handed in.
func TestEnds(t *testing.T) {
	r := rand.New(rand.NewSource(4))
	for range 10 {
		p := made(5)
		for range 24 {
			p.Rows = append(p.Rows, least(-r.Intn(most), randomList(r, 5, most)...))
		}
		checkOne(t, p, least(-most, randomList(r, 5, most)...))
		if _, kind, err := Most(p, randomList(r, 5, most)); kind != "found" && err != api.ErrBound {
			t.Error(kind, err)
		}
	}
}

// wantMost of the sum, by what makes the polyhedron.
func wantMost(p api.Poly, c []int) (*big.Rat, string) {
	whole := exact.Of(p)
	if whole.Empty() {
		return nil, "empty"
	}
	sum := wide.RowOf(c)
	for _, l := range whole.Lines {
		if sum.Dot(l).Sign() != 0 {
			return nil, "open"
		}
	}
	var most *big.Rat
	for _, ray := range whole.Rays {
		n, _ := sum.Dot(ray).Int()
		den, _ := ray[p.Dim].Int()
		if den == 0 && n > 0 {
			return nil, "open"
		}
		if den == 0 {
			continue
		}
		if value := big.NewRat(int64(n), int64(den)); most == nil || value.Cmp(most) > 0 {
			most = value
		}
	}
	return most, "found"
}

// P52, P53: no point has more, and some point has it.
func TestAlwaysMost(t *testing.T) {
	r, seen := rand.New(rand.NewSource(5)), kinds{}
	for range 6000 {
		p := randomPoly(r, r.Intn(6), 9, 4, 12)
		c := randomList(r, p.Dim, 4)
		if len(p.Rows) > 0 && r.Intn(2) == 0 {
			for i, n := range randomRow(r, p, 4).A {
				c[i] = -n
			}
		}
		value, kind, err := Most(p, c)
		want, wantKind := wantMost(p, c)
		if kind != wantKind || err != nil {
			t.Fatal(p, c, value, kind, err, want, wantKind)
		}
		seen[kind]++
		if kind != "found" {
			if len(value.X) != 0 || value.Den != 0 {
				t.Fatal(p, c, value, kind)
			}
			continue
		}
		if len(value.X) != 1 || want.Num().Int64() != int64(value.X[0]) || want.Denom().Int64() != int64(value.Den) {
			t.Fatal(p, c, value, want)
		}
		checkReached(t, p, c, value)
	}
	seen.check(t, 300, "found", "open", "empty")
}

// checkReached by the words of P53, with other calls.
func checkReached(t *testing.T, p api.Poly, c []int, value api.Point) {
	t.Helper()
	there, bound := same(value.X[0], make([]int, p.Dim)...), least(-value.X[0], make([]int, p.Dim)...)
	for i, n := range c {
		there.A[i], bound.A[i] = value.Den*n, -value.Den*n
	}
	if isGreat(there) {
		return
	}
	if f, is, err := Follow(p, bound); !is || err != nil {
		t.Fatal(p, c, value, f, is, err)
	}
	bound.B++
	if f, is, err := Follow(p, bound); is || err != nil {
		t.Fatal(p, c, value, f, is, err)
	}
	has, err := ops.Meet(p, made(p.Dim, there))
	if err != nil {
		t.Fatal(p, c, value, err)
	}
	if none, err := poly.Empty(has); none || err != nil {
		t.Fatal(p, c, value, has, err)
	}
}

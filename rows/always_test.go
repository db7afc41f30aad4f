package rows

import (
	"fmt"
	"math/big"
	"math/rand"
	"slices"
	"sync"
	"testing"

	"raycone/api"
)

// sizes of numbers at random: small ones make ranks fall, great ones make answers too great.
var sizes = []int{1, 2, 9, 1000, 1 << 20, api.MaxEntry}

func randomRow(r *rand.Rand, n, size int) []int {
	l := make([]int, n)
	for i := range l {
		l[i] = r.Intn(2*size+1) - size
	}
	return l
}

func randomMatrix(r *rand.Rand, rows, width int) [][]int {
	size := sizes[r.Intn(len(sizes))]
	m := make([][]int, rows)
	for i := range m {
		m[i] = randomRow(r, width, size)
		if r.Intn(3) == 0 && i > 0 {
			m[i] = slices.Clone(m[r.Intn(i)])
		}
	}
	return m
}

// fractions of m's rows, reduced with pivots 1: worked out apart from the program.
func fractions(m [][]int) [][]*big.Rat {
	var l [][]*big.Rat
	for _, r := range m {
		row := make([]*big.Rat, len(r))
		for i, n := range r {
			row[i] = new(big.Rat).SetInt64(int64(n))
		}
		l = append(l, row)
	}
	done := 0
	for column := 0; len(m) > 0 && column < len(m[0]); column++ {
		at := done
		for at < len(l) && l[at][column].Sign() == 0 {
			at++
		}
		if at == len(l) {
			continue
		}
		l[done], l[at] = l[at], l[done]
		pivot := new(big.Rat).Set(l[done][column])
		for _, n := range l[done] {
			n.Quo(n, pivot)
		}
		for i := range l {
			if i != done {
				takeAway(l[i], l[done], l[i][column])
			}
		}
		done++
	}
	return l[:done]
}

func takeAway(row, other []*big.Rat, often *big.Rat) {
	often = new(big.Rat).Set(often)
	for j, n := range row {
		n.Sub(n, new(big.Rat).Mul(often, other[j]))
	}
}

// wholeRow is the Normal row of fractions; false: a number is above MaxTold in size.
func wholeRow(row []*big.Rat) ([]int, bool) {
	den, divisor := big.NewInt(1), new(big.Int)
	for _, n := range row {
		g := new(big.Int).GCD(nil, nil, den, n.Denom())
		den.Mul(den, new(big.Int).Quo(n.Denom(), g))
	}
	whole := make([]*big.Int, len(row))
	for i, n := range row {
		whole[i] = new(big.Int).Quo(new(big.Int).Mul(n.Num(), den), n.Denom())
		divisor.GCD(nil, nil, divisor, new(big.Int).Abs(whole[i]))
	}
	l := make([]int, len(row))
	for i, n := range whole {
		if divisor.Sign() != 0 {
			n.Quo(n, divisor)
		}
		if n.CmpAbs(big.NewInt(api.MaxTold)) > 0 {
			return nil, false
		}
		l[i] = int(n.Int64())
	}
	return l, true
}

// wantEchelon is the answer that P12 asks for.
func wantEchelon(m [][]int) ([][]int, error) {
	var l [][]int
	for _, row := range fractions(m) {
		whole, ok := wholeRow(row)
		if !ok {
			return nil, api.ErrBound
		}
		l = append(l, whole)
	}
	return l, nil
}

// wantReduce is the answer that P13 asks for.
func wantReduce(r []int, m [][]int) ([]int, error) {
	row := make([]*big.Rat, len(r))
	for i, n := range r {
		row[i] = new(big.Rat).SetInt64(int64(n))
	}
	for _, by := range fractions(m) {
		pivot := slices.IndexFunc(by, func(n *big.Rat) bool { return n.Sign() != 0 })
		takeAway(row, by, row[pivot])
	}
	l, ok := wholeRow(row)
	if !ok {
		return nil, api.ErrBound
	}
	return l, nil
}

func same(a, b any) bool { return fmt.Sprint(a) == fmt.Sprint(b) }

func TestEchelonAtRandom(t *testing.T) { // P12, P13
	r := rand.New(rand.NewSource(1))
	bounds := 0
	for range 4000 {
		m := randomMatrix(r, r.Intn(6), r.Intn(7))
		got, err := Echelon(m)
		want, bad := wantEchelon(m)
		if err != bad || !same(got, want) {
			t.Fatalf("Echelon(%v) = %v %v, want %v %v", m, got, err, want, bad)
		}
		if n, err := Rank(m); err != nil || n != len(fractions(m)) {
			t.Fatalf("Rank(%v) = %d %v, want %d", m, n, err, len(fractions(m)))
		}
		if bad != nil {
			bounds++
		}
		width := 3
		if len(m) > 0 {
			width = len(m[0])
		}
		row := randomRow(r, width, sizes[r.Intn(len(sizes))])
		rest, err := Reduce(row, m)
		wantRest, bad := wantReduce(row, m)
		if err != bad || !same(rest, wantRest) {
			t.Fatalf("Reduce(%v, %v) = %v %v, want %v %v", row, m, rest, err, wantRest, bad)
		}
	}
	if bounds == 0 {
		t.Error("no answer was above the bound")
	}
}

// sumsOf makes rows that make the same sums as m's: each row times something other than 0, with rows ahead of it, turned round.
func sumsOf(r *rand.Rand, m [][]int) [][]int {
	l := make([][]int, len(m))
	for i := range m {
		times := 1 + r.Intn(3)
		l[i] = make([]int, len(m[i]))
		for j := range l[i] {
			l[i][j] = -times * m[i][j]
			for k := range i {
				l[i][j] += (k - 1) * m[k][j]
			}
		}
	}
	slices.Reverse(l)
	return l
}

func columns(m [][]int) [][]int {
	var l [][]int
	for j := 0; len(m) > 0 && j < len(m[0]); j++ {
		column := make([]int, len(m))
		for i := range m {
			column[i] = m[i][j]
		}
		l = append(l, column)
	}
	return l
}

func rankOf(t *testing.T, m [][]int) int {
	t.Helper()
	n, err := Rank(m)
	if err != nil {
		t.Fatalf("Rank(%v): %v", m, err)
	}
	return n
}

func TestAlways(t *testing.T) { // P15
	r := rand.New(rand.NewSource(2))
	for range 3000 {
		rows, width := r.Intn(6), 1+r.Intn(6)
		m := randomMatrix(r, rows, width)
		if n, turned := rankOf(t, m), rankOf(t, columns(m)); n != turned {
			t.Fatalf("%v has rank %d, its columns %d", m, n, turned)
		}
		other := randomMatrix(r, r.Intn(6), width)
		if both := rankOf(t, slices.Concat(m, other)); both > rankOf(t, m)+rankOf(t, other) {
			t.Fatalf("%v and %v together have rank %d", m, other, both)
		}
	}
}

func TestReducedAgain(t *testing.T) { // P15
	r := rand.New(rand.NewSource(3))
	for range 3000 {
		width := 1 + r.Intn(6)
		m := make([][]int, r.Intn(5))
		for i := range m {
			m[i] = randomRow(r, width, 9)
		}
		l, err := Echelon(m)
		if err != nil {
			t.Fatalf("Echelon(%v): %v", m, err)
		}
		if again, err := Echelon(l); err != nil || !same(again, l) {
			t.Fatalf("%v, reduced again, is %v %v", l, again, err)
		}
		if sums, err := Echelon(sumsOf(r, m)); err != nil || !same(sums, l) {
			t.Fatalf("sums of %v have the reduced rows %v %v, want %v", m, sums, err, l)
		}
		for _, row := range m {
			if rest, err := Reduce(row, l); err != nil || !same(rest, make([]int, width)) {
				t.Fatalf("%v, a row of %v, leaves %v %v", row, m, rest, err)
			}
		}
	}
}

// The greatest matrices end soon, and without a panic.
func TestGreatMatrices(t *testing.T) { // P1
	r := rand.New(rand.NewSource(4))
	for _, height := range []int{1, 2, 12, 23, 24} {
		m := make([][]int, height)
		for i := range m {
			m[i] = randomRow(r, api.MaxRows, api.MaxEntry)
		}
		if got := rankOf(t, m); got != height {
			t.Errorf("rank %d, want %d", got, height)
		}
		got, err := Echelon(m)
		want, bad := wantEchelon(m)
		if err != bad || !same(got, want) {
			t.Errorf("%d rows: %v %v, want %v %v", height, got, err, want, bad)
		}
		row := randomRow(r, api.MaxRows, api.MaxEntry)
		rest, err := Reduce(row, m)
		wantRest, bad := wantReduce(row, m)
		if err != bad || !same(rest, wantRest) {
			t.Errorf("%d rows leave %v %v, want %v %v", height, rest, err, wantRest, bad)
		}
	}
}

// withSpare is the list with room behind it, in which nothing may be written.
func withSpare(l ...int) []int { return append(l, 77, 78, 79)[:len(l)] }

func spareStays(t *testing.T, l []int, want ...int) {
	t.Helper()
	if got := l[:len(l)+3]; !slices.Equal(got, append(want, 77, 78, 79)) {
		t.Errorf("what was handed over is %v now", got)
	}
}

func TestHandedOverStays(t *testing.T) { // P3, P4
	a, b := withSpare(2, 4), withSpare(1, 3)
	m := append([][]int{a, b}, nil)[:2]
	normal := Normal(a)
	reduced, _ := Echelon(m)
	rest, _ := Reduce(a, [][]int{b})
	sum, _ := Combine(a, 1, b, 1)
	one := Normal(b)
	Dot(a, b)
	Rank(m)
	answers := append(slices.Clone(reduced), normal, rest, sum, one)
	for i, l := range answers {
		kept := fmt.Sprint(answers[:i], answers[i+1:])
		for j := range l[:cap(l)] {
			l[:cap(l)][j] = 99
		}
		if fmt.Sprint(answers[:i], answers[i+1:]) != kept {
			t.Errorf("answer %d shares memory with another", i)
		}
	}
	spareStays(t, a, 2, 4)
	spareStays(t, b, 1, 3)
	if m[:3][2] != nil {
		t.Error("written behind the matrix")
	}
	if got := Normal(a); !same(got, []int{1, 2}) {
		t.Errorf("Normal(%v) = %v", a, got)
	}
}

func TestSideBySide(t *testing.T) { // P2
	m := randomMatrix(rand.New(rand.NewSource(5)), 5, 6)
	want, bad := Echelon(m)
	var wait sync.WaitGroup
	for range api.Workers {
		wait.Go(func() {
			for range 20 {
				if got, err := Echelon(m); err != bad || !same(got, want) {
					t.Errorf("%v %v, want %v %v", got, err, want, bad)
				}
			}
		})
	}
	wait.Wait()
}

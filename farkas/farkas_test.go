package farkas

import (
	"fmt"
	"math"
	"slices"
	"sync"
	"testing"

	"raycone/api"
	"raycone/poly"
)

const (
	most = api.MaxEntry
	over = api.MaxEntry + 1
)

func least(b int, a ...int) api.Row { return api.Row{A: a, B: b} }

func same(b int, a ...int) api.Row { return api.Row{Eq: true, A: a, B: b} }

func made(dim int, rows ...api.Row) api.Poly { return api.Poly{Dim: dim, Rows: rows} }

func proof(den int, weights ...int) Proof { return Proof{Weights: weights, Den: den} }

func readAs(t *testing.T, dim int, s string) api.Poly {
	t.Helper()
	p, err := poly.Read(dim, s)
	if err != nil {
		t.Fatal(s, err)
	}
	return p
}

func readRow(t *testing.T, dim int, s string) api.Row {
	t.Helper()
	return readAs(t, dim, s+"\n").Rows[0]
}

// P50: what was worked out by hand.
func TestCheck(t *testing.T) {
	const wedge = "x0 >= 1\nx1 = 2\n"
	const none = "x0 >= 1\n-x0 >= 0\n"
	for _, c := range []struct {
		dim  int
		rows string
		row  string
		f    Proof
		want bool
	}{
		{1, "x0 >= 1\n", "x0 >= 0", proof(1, 1), true},
		{1, "x0 >= 1\n", "x0 >= 1", proof(1, 1), true},
		{1, "x0 >= 1\n", "x0 >= 2", proof(1, 1), false},
		{1, "x0 >= 1\n", "x0 >= 1", proof(1, 2), false},
		{1, "x0 >= 1\n", "x0 >= 1", proof(2, 2), true},
		{1, "x0 >= 1\n", "x0 >= 1", proof(2, 1), false},
		{1, "3 x0 >= 4\n", "2 x0 >= 2", proof(3, 2), true},
		{1, "3 x0 >= 4\n", "2 x0 >= 3", proof(3, 2), false},
		{1, "x0 >= 1\n", "-x0 >= -1", proof(1, 1), false},
		{2, wedge, "2 x0 - x1 >= 0", proof(1, 2, -1), true},
		{2, wedge, "2 x0 - x1 >= 1", proof(1, 2, -1), false},
		{2, wedge, "2 x0 - x1 >= 0", proof(1, 2, 1), false},
		{2, wedge, "2 x0 + x1 >= 4", proof(5, 10, 5), true},
		{2, wedge, "x1 >= 2", proof(1, 0, 1), true},
		{2, wedge, "-x1 >= -2", proof(1, 0, -1), true},
		{2, wedge, "-x1 >= -1", proof(1, 0, -1), false},
		// One number of A alone must not be enough.
		{2, "x0 + x1 >= 1\n", "x0 >= 0", proof(1, 1), false},
		{2, "x0 + x1 >= 1\n", "x1 >= 0", proof(1, 1), false},
		// A weight below 0 turns a row round.
		{1, "x0 >= 1\n", "-x0 >= -1", proof(1, -1), false},
		{2, wedge, "-x0 >= -1", proof(1, -1, 0), false},
		{1, "x0 >= 1\n-x0 >= 1\n", "0 >= 0", proof(1, -1, -1), false},
		{1, "0 >= -1\n", "x0 >= 5", proof(1, -1), false},
		{1, "0 = -1\n", "x0 >= 5", proof(1, -1), true},
		// Nothing is there: then all follows, whatever Den is.
		{1, none, "7 x0 >= 99", proof(1, 1, 1), true},
		{1, none, "7 x0 >= 99", proof(5, 3, 3), true},
		{1, none, "7 x0 >= 99", proof(1, 1, 2), false},
		{1, "x0 >= 0\n-x0 >= 0\n", "7 x0 >= 99", proof(1, 1, 1), false},
		{1, "x0 >= 0\n-x0 >= 0\n", "0 >= 1", proof(1, 1, 1), false},
		{1, "x0 >= 0\n-x0 >= 0\n", "0 >= 0", proof(1, 1, 1), true},
		{1, none, "x0 >= 1", proof(1, 1, 0), true},
		{1, none, "0 >= 1", proof(1, 1, 1), true},
		{1, none, "0 >= 2", proof(1, 1, 1), true},
		{2, "x0 >= 1\n-x0 >= 0\n", "x1 >= 1", proof(1, 1, 1), true},
		// Nothing but 0 follows from nothing.
		{2, "", "0 >= 0", proof(1), true},
		{2, "", "0 >= -4", proof(9), true},
		{2, "", "0 >= 1", proof(1), false},
		{2, "", "x1 >= 0", proof(1), false},
		{0, "", "0 >= 0", proof(1), true},
		{0, "", "0 >= 1", proof(1), false},
		{0, "0 >= 1\n", "0 >= 9", proof(1, 1), true},
		{0, "0 >= 1\n", "0 >= 9", proof(1, 0), false},
		{0, "0 >= -1\n", "0 >= -2", proof(1, 2), true},
		{0, "0 >= -1\n", "0 >= -2", proof(1, 3), false},
	} {
		got, err := Check(readAs(t, c.dim, c.rows), readRow(t, c.dim, c.row), c.f)
		if got != c.want || err != nil {
			t.Errorf("%q %q %v: %v %v", c.rows, c.row, c.f, got, err)
		}
		if got := Proves(readAs(t, c.dim, c.rows), readRow(t, c.dim, c.row), c.f); got != c.want {
			t.Errorf("%q %q %v: %v", c.rows, c.row, c.f, got)
		}
	}
}

// P50: sums that no int holds; some of them would wrap round to what is wanted.
func TestCheckGreat(t *testing.T) {
	const told = api.MaxTold
	for _, c := range []struct {
		p    api.Poly
		r    api.Row
		f    Proof
		want bool
	}{
		{made(1, least(most, most)), least(most, most), proof(told, told), true},
		{made(1, least(most-1, most)), least(most, most), proof(told, told), false},
		{made(1, least(-most, -most)), least(-most, -most), proof(told, told), true},
		{made(1, least(4, 4)), least(0, 1), proof(told, told), false},
		{made(1, least(0, 4)), least(0, 0), proof(1, told), false},
		{made(1, least(0, 0), least(4, 4)), least(1, 0), proof(1, told, told), false},
		{made(0, least(4)), least(7), proof(1, told), true},
		{made(0, least(-4)), least(0), proof(1, told), false},
		{made(0, least(2)), least(7), proof(1, told), true},
		{made(0, least(-2)), least(0), proof(1, told), false},
		{made(0, same(-2)), least(0), proof(1, -told), true},
		{made(0), least(4), proof(told), false},
		{made(0), least(-4), proof(told), true},
		{made(0), least(2), proof(told), false},
		{made(2, least(0, most, -1), least(0, 0, most)), least(0, 1, 0), proof(told, most, 1), true},
		{made(2, least(0, most, -1), least(-1, 0, most)), least(0, 1, 0), proof(told, most, 1), false},
	} {
		if got, err := Check(c.p, c.r, c.f); got != c.want || err != nil {
			t.Error(c, got, err)
		}
	}
}

// P50: wrong inputs, and which error comes first.
func TestCheckErrors(t *testing.T) {
	p := made(2, least(1, 1, 0), same(2, 0, 1))
	r, f := least(0, 1, 1), proof(1, 1, 1)
	many := made(1, slices.Repeat([]api.Row{least(0, 1)}, 25)...)
	for _, c := range []struct {
		p    api.Poly
		r    api.Row
		f    Proof
		want error
	}{
		{p, r, f, nil},
		{made(6), least(0), Proof{}, api.ErrBound},
		{made(-1), r, f, api.ErrBound},
		{many, least(0), proof(1), api.ErrBound},
		{made(2, least(0, 1)), least(over), Proof{}, api.ErrShape},
		{made(2, least(over, 1, 0)), least(0), Proof{}, api.ErrBound},
		{made(2, least(0, 1, -over)), same(0), Proof{}, api.ErrBound},
		{p, same(0, 1, 1), f, api.ErrShape},
		{p, least(0, 1), f, api.ErrShape},
		{p, least(0, 1, 1, 1), f, api.ErrShape},
		{p, least(0), f, api.ErrShape},
		{p, r, proof(1, 1), api.ErrShape},
		{p, r, proof(1, 1, 1, 1), api.ErrShape},
		{p, r, proof(1), api.ErrShape},
		{p, r, proof(0, 1, 1), api.ErrShape},
		{p, r, proof(-1, 1, 1), api.ErrShape},
		{p, r, proof(math.MinInt, 1, 1), api.ErrShape},
		{p, r, Proof{}, api.ErrShape},
		{p, same(over, over, over), f, api.ErrShape},
		{p, least(over, 1, 1), proof(0, 1, 1), api.ErrShape},
		{p, r, proof(1, math.MaxInt), api.ErrShape},
		{p, least(over, 1, 1), f, api.ErrBound},
		{p, least(-over, 1, 1), f, api.ErrBound},
		{p, least(0, over, 1), f, api.ErrBound},
		{p, least(0, 1, -over), f, api.ErrBound},
		{p, least(math.MinInt, 1, 1), f, api.ErrBound},
		{p, least(0, 1, math.MinInt), f, api.ErrBound},
		{p, least(most, -most, most), f, nil},
		{p, r, proof(1, 1, api.MaxTold+1), api.ErrBound},
		{p, r, proof(1, 1, -api.MaxTold-1), api.ErrBound},
		{p, r, proof(1, math.MinInt, 1), api.ErrBound},
		{p, r, proof(1, math.MaxInt, 1), api.ErrBound},
		{p, r, proof(api.MaxTold+1, 1, 1), api.ErrBound},
		{p, r, proof(api.MaxTold, -api.MaxTold, api.MaxTold), nil},
		// A weight below 0 is no error, however it is with the rest.
		{p, r, proof(1, -1, 1), nil},
	} {
		got, err := Check(c.p, c.r, c.f)
		if err != c.want || err != nil && got {
			t.Error(c, got, err)
		}
	}
}

// P50: a proof holds, however great its numbers are; of what is none at all nothing is proved.
func TestProves(t *testing.T) {
	const great = math.MaxInt
	p := made(2, least(1, 1, 0), same(2, 0, 1))
	many := made(1, slices.Repeat([]api.Row{least(0, 1)}, 25)...)
	for i, c := range []struct {
		p    api.Poly
		r    api.Row
		f    Proof
		want bool
	}{
		{p, least(3, 1, 1), proof(great, great, great), true},
		{p, least(4, 1, 1), proof(great, great, great), false},
		{p, least(-1, 1, -1), proof(great, great, -great), true},
		{p, least(-1, 1, -1), proof(great, great, math.MinInt), false},
		{p, least(3, 1, 1), proof(1, math.MinInt, great), false},
		{p, least(-over, over, 0), proof(1, over, 0), true},
		{p, least(over, over, 0), proof(1, over, 0), true},
		{p, least(over+1, over, 0), proof(1, over, 0), false},
		{p, same(1, 1, 0), proof(1, 1, 0), false},
		{p, least(1, 1), proof(1, 1, 0), false},
		{p, least(1, 1, 0, 0), proof(1, 1, 0), false},
		{p, least(0), proof(1, 0, 0), false},
		{p, least(1, 1, 0), proof(0, 1, 0), false},
		{p, least(0, 0, 0), proof(math.MinInt, 0, 0), false},
		{p, least(1, 1, 0), proof(1, 1), false},
		{p, least(1, 1, 0), proof(1, 1, 0, 0), false},
		{p, least(1, 1, 0), Proof{}, false},
		{made(2, least(1, 1)), least(1, 1, 0), proof(1, 1), false},
		{made(2, least(1, 1, 0, 0)), least(1, 1, 0), proof(1, 1), false},
		{made(1, least(over, 1)), least(over, 1), proof(1, 1), false},
		{made(6), least(0, 0, 0, 0, 0, 0, 0), proof(1), false},
		{made(-1), least(0), proof(1), false},
		{many, least(0, 1), Proof{append([]int{1}, make([]int, 24)...), 1}, false},
	} {
		if got := Proves(c.p, c.r, c.f); got != c.want {
			t.Error(i, got)
		}
	}
}

// checkFollow asks for a proof, and whether it is one, if there should be one.
func checkFollow(t *testing.T, p api.Poly, r api.Row, want bool) {
	t.Helper()
	f, is, err := Follow(p, r)
	if is != want || err != nil {
		t.Error(p, r, f, is, err)
		return
	}
	if !is {
		if f.Weights != nil || f.Den != 0 {
			t.Error(p, r, f)
		}
		return
	}
	if right, err := Check(p, r, f); !right || err != nil {
		t.Error(p, r, f, right, err)
	}
}

// P51: what was worked out by hand.
func TestFollow(t *testing.T) {
	const square = "x0 >= 0\nx1 >= 0\n-x0 >= -1\n-x1 >= -1\n"
	for _, c := range []struct {
		dim       int
		rows      string
		is, isNot []string
	}{
		{1, "x0 >= 1\n", []string{"x0 >= 0", "x0 >= 1", "5 x0 >= 5", "5 x0 >= 4", "0 >= 0", "0 >= -1"}, []string{"x0 >= 2", "-x0 >= -9", "0 >= 1", "2 x0 >= 3"}},
		{1, "3 x0 >= 4\n", []string{"3 x0 >= 4", "2 x0 >= 2", "6 x0 >= 8", "x0 >= 1"}, []string{"2 x0 >= 3", "6 x0 >= 9"}},
		{1, "x0 >= 5\n3 x0 >= 4\nx0 >= 7\n", []string{"x0 >= 7", "2 x0 >= 14"}, []string{"x0 >= 8"}},
		{2, "x0 >= 1\nx1 = 2\n", []string{"3 x0 + x1 >= 5", "2 x0 - x1 >= 0", "x1 >= 2", "-x1 >= -2"}, []string{"2 x0 - x1 >= 1", "-x0 >= 0", "x1 >= 3", "-x1 >= -1"}},
		{2, square, []string{"x0 + x1 >= 0", "-x0 - x1 >= -2", "x0 - x1 >= -1", "7 x0 - 5 x1 >= -5"}, []string{"x0 + x1 >= 1", "-x0 - x1 >= -1", "7 x0 - 5 x1 >= -4"}},
		{2, "x0 + x1 >= 2\nx0 - x1 >= 0\n", []string{"x0 >= 1", "3 x0 + x1 >= 4"}, []string{"x0 >= 2", "x1 >= 0", "x0 + 3 x1 >= 0"}},
		{2, "2 x0 + 3 x1 = 5\n", []string{"2 x0 + 3 x1 >= 5", "-4 x0 - 6 x1 >= -10", "-4 x0 - 6 x1 >= -11"}, []string{"2 x0 + 3 x1 >= 6", "x0 + x1 >= 0", "x0 >= 0", "-4 x0 - 6 x1 >= -9"}},
		// Rows that hang on each other, and more than one way.
		{2, "x0 + x1 = 1\n2 x0 + 2 x1 = 2\nx0 - x1 = 3\n", []string{"x0 >= 2", "-x0 >= -2", "x1 >= -1", "-x1 >= 1"}, []string{"x0 >= 3", "-x1 >= 2"}},
		{3, "x0 - x1 >= 0\nx1 - x2 >= 0\n-x0 + x2 >= 0\n", []string{"x0 - x2 >= 0", "-x0 + x1 >= 0"}, []string{"x0 - x2 >= 1", "x0 >= 0"}},
		// Nothing is there: all follows.
		{1, "x0 >= 1\n-x0 >= 0\n", []string{"7 x0 >= 99", "x0 >= 5", "-x0 >= 5", "0 >= 1", "0 >= -1", "x0 >= 1"}, nil},
		{2, "x0 >= 1\n-x0 >= 0\n", []string{"x1 >= 1", "-x1 >= 1", "x0 - x1 >= 0"}, nil},
		{2, "x0 + x1 = 1\nx0 + x1 = 2\n", []string{"x1 >= 1", "x0 + x1 >= 8", "-x0 - x1 >= 8"}, nil},
		{2, "x0 + x1 >= 2\n-x0 >= 0\n-x1 >= 0\n", []string{"x1 >= 1", "0 >= 9"}, nil},
		{2, "0 >= 1\n", []string{"x0 + 3 x1 >= 1", "0 >= 1"}, nil},
		{2, "0 = -1\nx0 >= 0\n", []string{"x0 + 3 x1 >= 1", "0 >= 1"}, nil},
		{2, "0 >= 0\n0 = 0\n0 >= -5\n", []string{"0 >= 0", "0 >= -7"}, []string{"0 >= 1", "x0 >= -9"}},
		{2, "", []string{"0 >= 0", "0 >= -7"}, []string{"0 >= 1", "x0 >= -9"}},
		{0, "", []string{"0 >= 0", "0 >= -7"}, []string{"0 >= 1"}},
		{0, "0 >= 3\n", []string{"0 >= 0", "0 >= 99"}, nil},
		{0, "0 = -3\n", []string{"0 >= 0", "0 >= 99"}, nil},
	} {
		p := readAs(t, c.dim, c.rows)
		for _, row := range c.is {
			checkFollow(t, p, readRow(t, c.dim, row), true)
		}
		for _, row := range c.isNot {
			checkFollow(t, p, readRow(t, c.dim, row), false)
		}
	}
}

// P51: wrong inputs, and which error comes first.
func TestFollowErrors(t *testing.T) {
	p := made(2, least(1, 1, 0), same(2, 0, 1))
	for _, c := range []struct {
		p    api.Poly
		r    api.Row
		want error
	}{
		{p, least(0, 1, 1), nil},
		{p, least(-most, most, most), nil},
		{made(6), same(0), api.ErrBound},
		{made(-1), same(0), api.ErrBound},
		{made(1, slices.Repeat([]api.Row{least(0, 1)}, 25)...), same(0), api.ErrBound},
		{made(2, least(0, 1)), least(over, 1, 1), api.ErrShape},
		{made(2, least(over, 1, 0)), same(0, 1), api.ErrBound},
		{p, same(0, 1, 1), api.ErrShape},
		{p, same(over, 1, 1), api.ErrShape},
		{p, least(0, 1), api.ErrShape},
		{p, least(0, 1, 1, 1), api.ErrShape},
		{p, least(over), api.ErrShape},
		{p, least(over, 1, 1), api.ErrBound},
		{p, least(-over, 1, 1), api.ErrBound},
		{p, least(0, over, 1), api.ErrBound},
		{p, least(0, 1, -over), api.ErrBound},
		{p, least(0, 1, math.MinInt), api.ErrBound},
		{p, least(math.MinInt, 1, 1), api.ErrBound},
	} {
		f, is, err := Follow(c.p, c.r)
		if err != c.want || err != nil && (is || f.Den != 0 || len(f.Weights) != 0) || err == nil && !is {
			t.Error(c, f, is, err)
		}
	}
}

// P51: numbers at MaxTold, and above it. Each proof is the only one, but for times something.
func TestFollowBound(t *testing.T) {
	falling := made(3, least(0, most, -1, 0), least(0, 0, most, -1), least(0, 0, 0, 2))
	for _, c := range []struct {
		p    api.Poly
		r    api.Row
		want string
	}{
		{made(2, least(0, most, -1), least(0, 0, most)), least(0, 1, 0), "{[2147483648 1] 4611686018427387904} true <nil>"},
		{falling, least(0, 1, 0, 0), "{[] 0} false raycone: bound"},
		{made(2, least(0, 1, -most), least(0, 0, 1)), least(0, most, 0), "{[2147483648 4611686018427387904] 1} true <nil>"},
		{made(2, least(0, 1, -most), same(0, 0, 1)), least(0, most, 0), "{[2147483648 4611686018427387904] 1} true <nil>"},
		{made(2, least(0, 1, -most), same(0, 0, -1)), least(0, most, 0), "{[2147483648 -4611686018427387904] 1} true <nil>"},
		{made(3, least(0, 1, -most, 0), least(0, 0, 1, -2), least(0, 0, 0, 1)), least(0, most, 0, 0), "{[] 0} false raycone: bound"},
		{made(3, least(0, 1, -most, 0), least(0, 0, 1, -2), same(0, 0, 0, -1)), least(0, most, 0, 0), "{[] 0} false raycone: bound"},
		// The numbers are divided by what divides them all.
		{made(2, least(0, most, 0), least(0, 0, most)), least(-7, most, most), "{[1 1] 1} true <nil>"},
		// What does not follow has no proof that could have great numbers.
		{falling, least(1, 1, 0, 0), "{[] 0} false <nil>"},
	} {
		f, is, err := Follow(c.p, c.r)
		if got := fmt.Sprint(f, is, err); got != c.want {
			t.Errorf("%v: %s", c, got)
		}
	}
}

// P51: nothing is there, but of what no row says each proof has great numbers.
func TestFollowNothingBound(t *testing.T) {
	rising := []api.Row{least(1, 1, 0, 0), least(0, -most, 1, 0), least(0, 0, -most, 1), least(0, 0, 0, -1)}
	checkFollow(t, made(3, rising...), least(5, -1, 0, 0), true)
	steep := made(3, append(rising[:3:3], least(0, 0, 0, -2))...)
	if f, is, err := Follow(steep, least(5, -1, 0, 0)); fmt.Sprint(f, is) != "{[] 0} false" || err != api.ErrBound {
		t.Error(f, is, err)
	}
	checkFollow(t, steep, least(1, 1, 0, 0), true)
}

// P52: what was worked out by hand.
func TestMost(t *testing.T) {
	const square = "x0 >= 0\nx1 >= 0\n-x0 >= -1\n-x1 >= -1\n"
	const corner = "-2 x0 >= -3\n-3 x1 >= -4\n"
	for _, c := range []struct {
		dim  int
		rows string
		c    []int
		want string
	}{
		{1, "-x0 >= -3\n", []int{1}, "{[3] 1} found"},
		{1, "-x0 >= -3\n", []int{2}, "{[6] 1} found"},
		{1, "-x0 >= 3\n", []int{1}, "{[-3] 1} found"},
		{1, "-2 x0 >= -3\n", []int{1}, "{[3] 2} found"},
		{1, "-2 x0 >= -3\n", []int{4}, "{[6] 1} found"},
		{1, "-6 x0 >= -3\n", []int{5}, "{[5] 2} found"},
		{1, "-x0 >= -3\n", []int{-1}, "{[] 0} open"},
		{1, "-x0 >= -3\n", []int{0}, "{[0] 1} found"},
		{1, "-x0 >= 0\n", []int{7}, "{[0] 1} found"},
		{1, "x0 = 5\n", []int{-2}, "{[-10] 1} found"},
		{2, "x0 + x1 = 5\n", []int{-2, -2}, "{[-10] 1} found"},
		{2, "x0 + x1 = 5\n", []int{1, 2}, "{[] 0} open"},
		{2, square, []int{3, 4}, "{[7] 1} found"},
		{2, square, []int{3, -4}, "{[3] 1} found"},
		{2, square, []int{-3, -4}, "{[0] 1} found"},
		{2, corner, []int{1, 1}, "{[17] 6} found"},
		{2, corner, []int{2, 3}, "{[7] 1} found"},
		{2, corner, []int{1, -1}, "{[] 0} open"},
		{2, "", []int{0, 0}, "{[0] 1} found"},
		{2, "", []int{0, 1}, "{[] 0} open"},
		{2, "0 >= -1\n", []int{0, -1}, "{[] 0} open"},
		{3, "x0 - x1 >= 0\nx1 - x2 >= 0\n-x0 + x2 >= 0\n", []int{1, 1, -2}, "{[0] 1} found"},
		{3, "x0 - x1 >= 0\nx1 - x2 >= 0\n-x0 + x2 >= 0\n", []int{1, 1, -1}, "{[] 0} open"},
		// Nothing is there, whatever is asked.
		{1, "x0 >= 1\n-x0 >= 0\n", []int{0}, "{[] 0} empty"},
		{2, "x0 >= 1\n-x0 >= 0\n", []int{1, 0}, "{[] 0} empty"},
		{2, "x0 >= 1\n-x0 >= 0\n", []int{0, 1}, "{[] 0} empty"},
		{2, "x0 + x1 = 1\nx0 + x1 = 2\n", []int{1, -1}, "{[] 0} empty"},
		{2, "0 = 1\n", []int{0, 0}, "{[] 0} empty"},
		{0, "", nil, "{[0] 1} found"},
		{0, "0 >= -4\n0 = 0\n", nil, "{[0] 1} found"},
		{0, "0 >= 4\n", nil, "{[] 0} empty"},
	} {
		value, kind, err := Most(readAs(t, c.dim, c.rows), c.c)
		if got := fmt.Sprint(value) + " " + kind; got != c.want || err != nil {
			t.Errorf("%q %v: %s %v", c.rows, c.c, got, err)
		}
	}
}

// P52: wrong inputs, and which error comes first; and numbers at MaxTold and above it.
func TestMostErrors(t *testing.T) {
	p := made(2, least(-1, -1, 0), same(2, 0, 1))
	// x1 is at most 2 to the 31, x0 as often that.
	great := made(2, same(0, 1, -most), least(-most, 0, -1))
	low := made(2, same(0, 1, -most), least(most, 0, 1))
	small := made(3, same(0, most, -1, 0), same(0, 0, most, -1), same(1, 0, 0, 2))
	for _, c := range []struct {
		p    api.Poly
		c    []int
		want string
	}{
		{p, []int{1, 1}, "{[3] 1} found <nil>"},
		{p, []int{most, -most}, "{[-2147483648] 1} found <nil>"},
		{made(6), nil, "bound"},
		{made(-1), []int{1}, "bound"},
		{made(1, slices.Repeat([]api.Row{least(0, 1)}, 25)...), []int{1, 2}, "bound"},
		{made(2, least(0, 1)), []int{over, 1}, "shape"},
		{made(2, least(over, 1, 0)), []int{1}, "bound"},
		{p, nil, "shape"},
		{p, []int{1}, "shape"},
		{p, []int{over}, "shape"},
		{p, []int{1, 1, 1}, "shape"},
		{p, []int{over, 1}, "bound"},
		{p, []int{1, -over}, "bound"},
		{p, []int{1, math.MinInt}, "bound"},
		// Also where there is no value that could be told.
		{made(1), []int{over}, "bound"},
		{made(1, least(1, 0)), []int{over}, "bound"},
		{great, []int{1, 0}, "{[4611686018427387904] 1} found <nil>"},
		{great, []int{1, 1}, "bound"},
		{great, []int{2, 0}, "bound"},
		{great, []int{-1, 0}, "{[] 0} open <nil>"},
		{great, []int{1, -most}, "{[0] 1} found <nil>"},
		{low, []int{-1, 0}, "{[-4611686018427387904] 1} found <nil>"},
		{low, []int{-1, -1}, "bound"},
		{small, []int{2, 0, 0}, "{[1] 4611686018427387904} found <nil>"},
		{small, []int{1, 0, 0}, "bound"},
		{small, []int{3, 0, 0}, "bound"},
		{small, []int{-most, 0, 0}, "{[-1] 4294967296} found <nil>"},
	} {
		value, kind, err := Most(c.p, c.c)
		got := fmt.Sprint(value) + " " + kind + " " + fmt.Sprint(err)
		want := c.want
		if want == "bound" || want == "shape" {
			want = "{[] 0}  raycone: " + want
		}
		if got != want {
			t.Errorf("%v: %s", c, got)
		}
	}
}

// P51: a proof by few rows is told, though there are others with great numbers.
func TestFollowFew(t *testing.T) {
	great := made(3,
		least(-5, 2147483629, 1073741789, 536870909), least(-9, -1073741783, 2147483587, -536870879),
		least(-2, 536870869, -1073741741, 2147483579), least(-3, -2147483563, -536870849, -1073741723),
		least(-8, 1073741719, -2147483549, -2147483543), least(-7, -536870839, 1073741717, 1073741689))
	for _, r := range great.Rows {
		checkFollow(t, great, r, true)
		lower := api.Row{A: r.A, B: r.B - 1}
		checkFollow(t, great, lower, true)
		for _, other := range great.Rows {
			sum := api.Row{B: r.B + other.B}
			for i, n := range r.A {
				sum.A = append(sum.A, n+other.A[i])
			}
			if !isGreat(sum) {
				checkFollow(t, great, sum, true)
			}
		}
	}
	// Not so of what takes three of these rows.
	if f, is, err := Follow(great, least(-most, 3, 5, 7)); is || len(f.Weights) != 0 || err != api.ErrBound {
		t.Error(f, is, err)
	}
}

// P4: what is handed over is only read, also behind a list's end; what is told is new.
func TestMemory(t *testing.T) {
	long := func(l ...int) []int { return append(make([]int, 0, 9), l...) }
	p := made(2, make([]api.Row, 0, 8)...)
	for _, r := range []api.Row{least(1, 2, 4), least(0, -3, 1), same(5, 5, 5), least(-7, -1, 0)} {
		r.A = long(r.A...)
		p.Rows = append(p.Rows, r)
	}
	row, c, f := least(-4, long(-1, 0)...), long(1, 0), proof(1, long(0, 0, 0, 1)...)
	given := func() string {
		text := fmt.Sprint(p, row, c, f, p.Rows[:8], row.A[:9], c[:9], f.Weights[:9])
		for _, r := range p.Rows {
			text += fmt.Sprint(r.A[:9])
		}
		return text
	}
	was := given()
	if _, err := Check(p, row, f); err != nil {
		t.Error(err)
	}
	told, is, err := Follow(p, row)
	value, kind, fault := Most(p, c)
	if !is || err != nil || kind != "found" || fault != nil {
		t.Fatal(told, is, err, value, kind, fault)
	}
	want := fmt.Sprint(told, value)
	for _, l := range [][]int{told.Weights, value.X} {
		for i := range l {
			l[i] = 99
		}
		_ = append(l, 99)
	}
	if now := given(); now != was {
		t.Error(was, now)
	}
	told, _, _ = Follow(p, row)
	value, _, _ = Most(p, c)
	if again := fmt.Sprint(told, value); again != want {
		t.Error(want, again)
	}
}

// P2: answers do not hang on who else asks.
func TestSideBySide(t *testing.T) {
	p := made(2, least(1, 2, 4), least(0, -3, 1), same(5, 5, 5), least(-7, -1, 0))
	ask := func() string {
		f, is, err := Follow(p, least(-4, -1, 0))
		right, fault := Check(p, least(-4, -1, 0), f)
		value, kind, lack := Most(p, []int{1, 3})
		return fmt.Sprint(f, is, err, right, fault, value, kind, lack)
	}
	want := ask()
	got := make([]string, 8)
	var all sync.WaitGroup
	for i := range got {
		all.Go(func() { got[i] = ask() })
	}
	all.Wait()
	for _, g := range got {
		if g != want {
			t.Error(g, want)
		}
	}
}

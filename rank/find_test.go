package rank

import (
	"strings"
	"testing"

	"raycone/api"
	"raycone/plan"
	"raycone/wide"
)

// P192: loops of which it was worked out by hand whether there is a rank.
func TestFind(t *testing.T) {
	for _, c := range []struct {
		dim  int
		rows string
		want bool
	}{
		{1, "x0 >= 3, x0 - x1 >= 2", true},
		{1, "-x0 >= 3, -x0 + x1 >= 2", true},
		{1, "x0 >= 3, x0 - x1 >= 0", false},
		{1, "x0 - x1 >= 1", false},
		{1, "x0 >= 3", false},
		{1, "", false},
		// It falls by a half, which a whole F can do only twice as great.
		{1, "x0 >= 0, 2 x0 - 2 x1 >= 1", true},
		// It is halved: but from 1 on.
		{1, "x0 >= 1, x0 - 2 x1 = 0", true},
		{1, "x0 >= 0, x0 - 2 x1 = 0", false},
		// What is behind bounds it as well as what is ahead.
		{1, "x1 >= 0, x0 - x1 >= 1", true},
		{1, "x0 = 7, x1 = 7", false},
		{1, "x0 = 7, x1 = 8", true},
		{1, "0 >= 1", true},
		{1, "x0 >= 1, -x0 >= 0", true},
		{2, "", false},
		{2, "x0 >= 0, x0 - x2 >= 1", true},
		{2, "x1 >= 0, x0 - x2 >= 1", false},
		{2, "x1 >= 0, x1 - x3 >= 1", true},
		{2, "x0 >= 0, x1 >= 0, x0 + x1 - x2 - x3 = 1", true},
		{2, "x0 >= 0, x0 + x1 - x2 - x3 = 1", false},
		{2, "-x0 + x1 >= 0, x0 - x2 = -1, x1 - x3 = 0", true},
		{2, "x0 - x1 >= 0, x0 - x2 = -1, x1 - x3 = 0", false},
		// One falls while the other one stays or rises by twice as much: only three of one and one of the other fall always.
		{2, "x0 >= 0, x1 >= 0, 3 x0 + x1 - 3 x2 - x3 >= 1", true},
		{2, "3 x0 + 5 x1 >= -9, 3 x0 + 5 x1 - 3 x2 - 5 x3 >= 2", true},
		{2, "3 x0 + 5 x1 >= -9, 3 x0 + 4 x1 - 3 x2 - 4 x3 >= 2", false},
		{2, "0 >= 1", true},
		// No sum of these two: one falls, then the other one.
		{2, "x0 - x3 = 0, x1 - x2 = 1, x0 >= 0", false},
		{2, "x0 - x3 = 0, x1 - x2 = 1, x0 >= 0, x1 >= 0", true},
	} {
		l := loop(c.dim, c.rows)
		r, is, err := Find(l)
		if is != c.want || err != nil {
			t.Error(c.rows, r, is, err)
			continue
		}
		if is {
			isRight(t, l, r)
		} else if len(r.F) > 0 || r.Low != 0 || r.Fall != 0 || len(r.A.Weights) > 0 || len(r.B.Weights) > 0 || r.A.Den != 0 || r.B.Den != 0 {
			t.Error(c.rows, r)
		}
	}
}

// isAny tells by weights whether there is a rank: weights of all rows, once for what is ahead of a round alone, and once for a step, make up the same F; and there is one just if so much fall can be had without end (PODELSKI, RYBALCHENKO).
func isAny(l Loop) bool {
	var nothing, both plan.Plan
	for _, r := range l.Rows {
		a, b := wide.RowOf(r.A[:l.Dim]), wide.RowOf(r.A[l.Dim:])
		zero, one := make(wide.Row, l.Dim), wide.From(1)
		nothing.Parts = append(nothing.Parts, plan.Part{Row: append(a[:l.Dim:l.Dim], b...), Gain: wide.From(r.B), Free: r.Eq})
		low := append(append(b[:l.Dim:l.Dim], a...), zero...)
		fall := append(append(zero[:l.Dim:l.Dim], a.Each(wide.Num.Negated)...), a.Sum(one, b, one)...)
		both.Parts = append(both.Parts, plan.Part{Row: low, Free: r.Eq}, plan.Part{Row: fall, Gain: wide.From(r.B), Free: r.Eq})
	}
	nothing.Wanted, both.Wanted = make(wide.Row, 2*l.Dim), make(wide.Row, 3*l.Dim)
	return isEndless(nothing) || isEndless(both)
}

func isEndless(p plan.Plan) bool {
	weights, ok := p.Best(func(wide.Row) bool { return false })
	return ok && weights[len(p.Parts)].Sign() == 0
}

// P192, P194: there is one just if it is found; and it is one.
func TestAlwaysFind(t *testing.T) {
	m, seen := makerOf(1), map[bool]int{}
	for _, size := range []int{1, 2, 5, 20} {
		for range 2500 {
			l := m.loop(size, 6)
			r, is, err := Find(l)
			if want := isAny(l); is != want || err != nil {
				t.Fatal(said(t, l), r, is, err, want)
			}
			if is {
				isRight(t, l, r)
			}
			seen[is]++
		}
	}
	if seen[true] < 1500 || seen[false] < 1500 {
		t.Error(seen)
	}
}

// P192: never ErrBound where all numbers are at most 20 in size, however many rows there are.
func TestAlwaysTold(t *testing.T) {
	m, seen := makerOf(2), map[bool]int{}
	for i := range 1500 {
		l := m.loop(20, 24)
		if i%2 == 0 {
			for _, r := range l.Rows {
				for k := range r.A {
					r.A[k] = (20 - m.Intn(3)) * (2*m.Intn(2) - 1)
				}
			}
		}
		r, is, err := Find(l)
		if want := isAny(l); is != want || err != nil {
			t.Fatal(said(t, l), r, is, err, want)
		}
		if is {
			isRight(t, l, r)
		}
		seen[is]++
	}
	if seen[true] < 100 || seen[false] < 100 {
		t.Error(seen)
	}
}

// P192: thin loops, in which two steps go almost against each other, so that all F lie between two others; of few rows, of numbers at most 20.
func TestAlwaysThin(t *testing.T) {
	m, found := makerOf(3), 0
	for range 4000 {
		l := Loop{Dim: 2}
		for range 3 + m.Intn(2) {
			r := api.Row{Eq: m.Intn(2) == 0, A: make([]int, 4), B: m.number(20)}
			for k := range r.A {
				r.A[k] = (10 + m.Intn(11)) * (2*m.Intn(2) - 1)
			}
			l.Rows = append(l.Rows, r)
		}
		for range 2 + m.Intn(2) {
			l.Rows = append(l.Rows, api.Row{A: []int{m.number(20), m.number(20), m.Intn(2), 0}, B: m.number(20)})
		}
		r, is, err := Find(l)
		if want := isAny(l); is != want || err != nil {
			t.Fatal(said(t, l), r, is, err, want)
		}
		if is {
			isRight(t, l, r)
			found++
		}
	}
	if found < 300 {
		t.Error(found)
	}
}

// P192: great numbers: what can be told is, and else ErrBound.
func TestGreat(t *testing.T) {
	const most = "2147483648"
	for _, c := range []struct {
		dim  int
		rows string
		want error
	}{
		{1, most + " x0 >= 1, x0 - x1 >= " + most, nil},
		{1, "x0 >= " + most + ", 2 x0 - 2 x1 >= 1", nil},
		{1, "x0 >= -1073741824, 2 x0 - 2 x1 >= 1", nil},
		{1, "x0 >= -1073741825, 2 x0 - 2 x1 >= 1", api.ErrBound},
		{1, "x0 >= 0, " + most + " x0 - " + most + " x1 >= 1", nil},
		{1, "x0 >= 0, x0 - x1 >= " + most, nil},
		{1, "x0 >= 0, x0 >= 5, x0 - x1 >= " + most + ", x0 - x1 >= 3", nil},
		// It falls by less than 1 of so many: F would have to be that great.
		{1, most + " x0 >= 1, 2147483647 x0 - " + most + " x1 >= 0", api.ErrBound},
		{1, "32768 x0 >= 1, 65535 x0 - 65536 x1 >= 0", nil},
		{1, "32769 x0 >= 1, 65535 x0 - 65536 x1 >= 0", api.ErrBound},
		// Only one F, or its multiples.
		{2, most + " x0 + 2147483647 x1 >= 0, " + most + " x0 + 2147483647 x1 - " + most + " x2 - 2147483647 x3 >= 1", nil},
		{2, most + " x0 + 2147483646 x1 >= 0, " + most + " x0 + 2147483646 x1 - " + most + " x2 - 2147483646 x3 >= 2", nil},
		{2, most + " x0 + 2147483647 x1 >= -1, 1073741824 x0 - 1073741824 x2 = 1, x1 - x3 = 0", nil},
		{2, most + " x0 + 2147483647 x1 >= 0, 2000 x0 - 2000 x2 = 1, 2147483648 x1 - 2147483648 x3 = 1", nil},
		{2, "1073741824 x0 + 1073741823 x1 >= 0, 2147483647 x0 - 2147483647 x2 = 1, x1 - x3 = 0", nil},
		{2, "1073741825 x0 + 1073741823 x1 >= 0, 2147483647 x0 - 2147483647 x2 = 1, x1 - x3 = 0", api.ErrBound},
		// Either F alone would be too low, and so would one less the other; both together are not.
		{2, "x0 + x1 >= -2147483648, -x0 >= -2147483648, -x1 >= -2147483648, x0 - x2 = 1, x1 - x3 = 1", nil},
		// All F lie between two great ones, and yet there are small ones among them.
		{2, "2000000001 x0 + 2000000000 x1 >= 0, 2000000000 x0 + 2000000001 x1 >= 0, x0 - x2 >= 1, x1 - x3 >= 1", nil},
		{1, most + " x0 >= 1, -" + most + " x0 >= 0", nil},
	} {
		l := loop(c.dim, c.rows)
		r, is, err := Find(l)
		if err != c.want || is != (err == nil) {
			t.Error(c.rows, r, is, err, c.want)
			continue
		}
		if is {
			isRight(t, l, r)
			continue
		}
		if len(r.F) > 0 || r.Low != 0 || r.Fall != 0 || len(r.A.Weights) > 0 || len(r.B.Weights) > 0 {
			t.Error(c.rows, r)
		}
	}
}

// P192: F is found though all of them lie in a narrow wedge around it: rows that only just leave it.
func TestAlwaysWedge(t *testing.T) {
	m := makerOf(4)
	for range 300 {
		// One F, and two beside it, of which it is the sum: no smaller one is between them.
		a, b, c, d := 1, 0, 0, 1
		for range m.Intn(14) {
			if m.Intn(2) == 0 {
				a, b = a+c, b+d
			} else {
				c, d = c+a, d+b
			}
		}
		l := Loop{Dim: 2, Rows: []api.Row{
			{A: []int{a, b, 0, 0}}, {A: []int{c, d, 0, 0}},
			{A: []int{a, b, -a, -b}, B: 0}, {A: []int{c, d, -c, -d}, B: 0},
			{A: []int{a + c, b + d, -a - c, -b - d}, B: 1},
		}}
		r, is, err := Find(l)
		if !is || err != nil {
			t.Fatal(said(t, l), r, is, err)
		}
		isRight(t, l, r)
	}
}

// P192: with great numbers at random there is one just if there is, or ErrBound.
func TestAlwaysGreat(t *testing.T) {
	m, seen := makerOf(5), map[string]int{}
	for range 1500 {
		size := []int{100, 3000, 1 << 20, api.MaxEntry}[m.Intn(4)]
		l := m.loop(size, 5)
		r, is, err := Find(l)
		switch want := isAny(l); {
		case err == api.ErrBound && want && !is:
			seen["bound"]++
		case err != nil || is != want:
			t.Fatal(said(t, l), r, is, err, want)
		case is:
			isRight(t, l, r)
			seen["found"]++
		default:
			seen["none"]++
		}
	}
	if seen["bound"] < 10 || seen["found"] < 200 || seen["none"] < 200 {
		t.Error(seen)
	}
}

// P194: rounds that come one behind the other are no more than the rank tells.
func TestAlwaysRounds(t *testing.T) {
	m, rounds := makerOf(6), 0
	for range 3000 {
		l := Loop{Dim: 2}
		step, stay := [2]int{m.number(3), m.number(3)}, [2]int{m.number(3), m.number(3)}
		for range 1 + m.Intn(2) {
			l.Rows = append(l.Rows, api.Row{A: []int{m.number(2), m.number(2), 0, 0}, B: m.number(9)})
		}
		l.Rows = append(l.Rows, api.Row{Eq: true, A: []int{1, stay[0], -1, 0}, B: step[0]}, api.Row{Eq: true, A: []int{0, 1, 0, -1}, B: step[1]})
		r, is, err := Find(l)
		if err != nil {
			t.Fatal(said(t, l), err)
		}
		if !is {
			continue
		}
		x, y := m.number(50), m.number(50)
		v, many := r.F[0]*x+r.F[1]*y, 0
		for isRound(l, x, y) {
			x, y = x+stay[0]*y-step[0], y-step[1]
			many++
		}
		if many > 0 && many > (v-r.Low)/r.Fall+1 {
			t.Fatal(said(t, l), r, v, many)
		}
		rounds += many
	}
	if rounds < 500 {
		t.Error(rounds)
	}
}

// isRound: may one begin there?
func isRound(l Loop, x, y int) bool {
	for _, r := range l.Rows {
		if !r.Eq && r.A[0]*x+r.A[1]*y < r.B {
			return false
		}
	}
	return true
}

// P192: what Valid says is told first.
func TestFindErrors(t *testing.T) {
	for _, l := range wrongLoops() {
		r, is, err := Find(l)
		if is || err == nil || err != Valid(l) || len(r.F) > 0 {
			t.Error(l, r, is, err)
		}
	}
	if s := said(t, loop(1, "x0 >= 3, x0 - x1 >= 2")); !strings.Contains(s, "x0 - x1 >= 2") {
		t.Error(s)
	}
}

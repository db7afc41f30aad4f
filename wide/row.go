package wide

import "slices"

// Row of numbers of any size. No method changes one; what comes is new.
type Row []Num

// RowOf ints.
func RowOf(l []int) Row {
	r := make(Row, len(l))
	for i, n := range l {
		r[i] = From(n)
	}
	return r
}

// RowsOf lists of ints.
func RowsOf(m [][]int) []Row {
	l := make([]Row, len(m))
	for i, r := range m {
		l[i] = RowOf(r)
	}
	return l
}

// Ints are the numbers, if an int holds each of them.
func (r Row) Ints() ([]int, bool) {
	l := make([]int, len(r))
	for i, n := range r {
		whole, ok := n.Int()
		if !ok {
			return nil, false
		}
		l[i] = whole
	}
	return l, true
}

// Compare with another row: number by number, from the first on.
func (r Row) Compare(other Row) int { return slices.CompareFunc(r, other, Num.Compare) }

// First place of which is tells true; -1: there is none.
func (r Row) First(is func(n Num) bool) int {
	for i, n := range r {
		if is(n) {
			return i
		}
	}
	return -1
}

// Any tells whether is tells true of some number.
func (r Row) Any(is func(n Num) bool) bool { return r.First(is) >= 0 }

// Pivot is the place of the first number other than 0; -1: there is none.
func (r Row) Pivot() int {
	return r.First(func(n Num) bool { return n.Sign() != 0 })
}

// Each number put through become.
func (r Row) Each(become func(n Num) Num) Row {
	l := make(Row, len(r))
	for i, n := range r {
		l[i] = become(n)
	}
	return l
}

// With another row, number by number, as far as both go.
func (r Row) With(other Row, become func(x, y Num) Num) Row {
	l := make(Row, min(len(r), len(other)))
	for i := range l {
		l[i] = become(r[i], other[i])
	}
	return l
}

// Sum of x times r and y times the other row.
func (r Row) Sum(x Num, other Row, y Num) Row {
	return r.With(other, func(a, b Num) Num { return a.Times(x).Plus(b.Times(y)) })
}

// Dot is the sum of products.
func (r Row) Dot(other Row) Num {
	var sum Num
	for i := range min(len(r), len(other)) {
		// Many numbers are 0, and no call is asked as often as this one.
		if r[i].Sign() != 0 && other[i].Sign() != 0 {
			sum = sum.Plus(r[i].Times(other[i]))
		}
	}
	return sum
}

// Divisor is the greatest number that divides all; 0, if all are 0.
func (r Row) Divisor() Num {
	var d Num
	for _, n := range r {
		d = Divisor(d, n)
		// A divisor of 1 stays 1, whatever comes: the rest need not be looked at.
		if d.Sign() > 0 && !d.Above(1) {
			break
		}
	}
	return d
}

// Normal row: divided by its divisor.
func (r Row) Normal() Row {
	d := r.Divisor()
	return r.Each(func(n Num) Num { return n.Over(d) })
}

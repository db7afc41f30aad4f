package machine

import (
	"raycone/api"
	"raycone/lang"
)

// orWrong: the run ends, wrong, where something is not so.
func orWrong(is bool) {
	if !is {
		panic(wrong{})
	}
}

func (r *run) term(e lang.Expr) int {
	switch e.Op {
	case "num":
		return e.N
	case "var":
		return value(r.vars[e.Name])
	case "at":
		l := r.arrays[e.Name]
		return value(l[r.place(e.L[0], len(l))])
	case "neg":
		return -r.term(e.L[0])
	}
	a := r.term(e.L[0])
	b := r.term(e.L[1])
	return joined(a, e.Op, b)
}

// place that a term tells, of an array of so many.
func (r *run) place(e lang.Expr, many int) int {
	at := r.term(e)
	orWrong(at >= 0 && at < many)
	return at
}

// joined by a sign: two numbers that are not too great.
func joined(a int, sign string, b int) int {
	switch sign {
	case "+":
		return value(a + b)
	case "-":
		return value(a - b)
	case "*":
		// An int may not hold the product: so it is held against the bound ahead of being made.
		orWrong(a == 0 || size(b) <= api.MaxValue/size(a))
		return a * b
	case "/":
		orWrong(b != 0)
		return a / b
	}
	orWrong(b != 0)
	return a % b
}

// value that a term may come to.
func value(n int) int {
	orWrong(!tooGreat(n))
	return n
}

func size(n int) int { return max(n, -n) }

// holds: one of the rows does. Those behind it are not looked at.
func (r *run) holds(c lang.Cond) bool {
	for _, row := range c {
		if r.rowHolds(row) {
			return true
		}
	}
	return false
}

// rowHolds: each test does. Those behind the first that does not are not looked at.
func (r *run) rowHolds(row []lang.Test) bool {
	for _, t := range row {
		if !r.testHolds(t) {
			return false
		}
	}
	return true
}

func (r *run) testHolds(t lang.Test) bool {
	a := r.term(t.A)
	b := r.term(t.B)
	switch t.Rel {
	case "<":
		return a < b
	case "<=":
		return a <= b
	case "==":
		return a == b
	case "!=":
		return a != b
	case ">":
		return a > b
	}
	return a >= b
}

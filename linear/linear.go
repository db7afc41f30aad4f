// Package linear: terms that are sums of variables, each so many times, and a number.
package linear

import (
	"slices"

	"raycone/api"
	"raycone/lang"
)

// Sum of variables.
type Sum struct {
	Times []int // how often each variable is in it
	More  int   // what is added
}

// Of a term: the sum that it is of these variables. False: it is none, or a number on the way is above most in size, or it has more parts than any text has bytes. Most is at most MaxBound: so nothing wraps round.
func Of(e lang.Expr, vars []string, most int) (Sum, bool) {
	left := api.MaxText
	if !isMade(e, &left) {
		return Sum{}, false
	}
	return reader{vars, most}.sum(e)
}

// isMade of what sums are made of, each with its fields and no others, and of no more parts than are left.
func isMade(e lang.Expr, left *int) bool {
	parts := 0
	switch e.Op {
	case "num", "var":
	case "neg":
		parts = 1
	case "+", "-", "*":
		parts = 2
	default:
		return false
	}
	*left--
	if *left < 0 || len(e.L) != parts || e.Op != "num" && e.N != 0 || e.Op != "var" && e.Name != "" {
		return false
	}
	return !slices.ContainsFunc(e.L, func(part lang.Expr) bool { return !isMade(part, left) })
}

// Less another one of the same variables.
func (s Sum) Less(other Sum) Sum {
	out := Sum{Times: slices.Clone(s.Times), More: s.More - other.More}
	for i, n := range other.Times {
		out.Times[i] -= n
	}
	return out
}

// reader of terms.
type reader struct {
	vars []string
	most int
}

func (r reader) sum(e lang.Expr) (Sum, bool) {
	switch e.Op {
	case "num":
		return r.told(Sum{Times: make([]int, len(r.vars)), More: e.N})
	case "var":
		return r.variable(e.Name)
	case "neg":
		return r.times(-1, e.L[0])
	case "+", "-":
		return r.both(e)
	case "*":
		return r.product(e.L[0], e.L[1])
	}
	return Sum{}, false
}

// told, if no number is too great.
func (r reader) told(s Sum) (Sum, bool) {
	if r.great(s.More) || slices.ContainsFunc(s.Times, r.great) {
		return Sum{}, false
	}
	return s, true
}

func (r reader) great(n int) bool { return n < -r.most || n > r.most }

func (r reader) variable(name string) (Sum, bool) {
	s := Sum{Times: make([]int, len(r.vars))}
	i := slices.Index(r.vars, name)
	if i < 0 {
		return Sum{}, false
	}
	s.Times[i] = 1
	return r.told(s)
}

// both parts, the second one added or taken away.
func (r reader) both(e lang.Expr) (Sum, bool) {
	a, ok := r.sum(e.L[0])
	if !ok {
		return Sum{}, false
	}
	b, ok := r.sum(e.L[1])
	if !ok {
		return Sum{}, false
	}
	// What is added is the opposite, taken away.
	if e.Op == "+" {
		b, _ = r.scaled(-1, b)
	}
	return r.told(a.Less(b))
}

// product, where one side is worked out of numbers alone.
func (r reader) product(a, b lang.Expr) (Sum, bool) {
	if hasVariable(a) {
		a, b = b, a
	}
	if hasVariable(a) {
		return Sum{}, false
	}
	n, ok := r.sum(a)
	if !ok {
		return Sum{}, false
	}
	return r.times(n.More, b)
}

func hasVariable(e lang.Expr) bool { return e.Op == "var" || slices.ContainsFunc(e.L, hasVariable) }

// times a term.
func (r reader) times(n int, e lang.Expr) (Sum, bool) {
	s, ok := r.sum(e)
	if !ok {
		return Sum{}, false
	}
	return r.scaled(n, s)
}

// scaled sum. It is asked ahead whether a product is too great: else it could wrap round.
func (r reader) scaled(n int, s Sum) (Sum, bool) {
	great := func(m int) bool { return n != 0 && size(m) > r.most/size(n) }
	if great(s.More) || slices.ContainsFunc(s.Times, great) {
		return Sum{}, false
	}
	out := Sum{Times: slices.Clone(s.Times), More: n * s.More}
	for i := range out.Times {
		out.Times[i] *= n
	}
	return out, true
}

func size(n int) int { return max(n, -n) }

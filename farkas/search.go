package farkas

import (
	"raycone/api"
	"raycone/bound"
	"raycone/plan"
	"raycone/wide"
)

// planOf weights with which the rows of p have the sum wanted in A, and the most in B.
func planOf(p api.Poly, wanted wide.Row) plan.Plan {
	parts := make([]plan.Part, len(p.Rows))
	for i, r := range p.Rows {
		parts[i] = plan.Part{Row: wide.RowOf(r.A), Gain: wide.From(r.B), Free: r.Eq}
	}
	return plan.Plan{Parts: parts, Wanted: wanted}
}

func never(wide.Row) bool { return false }

// gains of the rows of p: their B.
func gains(p api.Poly) wide.Row {
	l := make(wide.Row, len(p.Rows))
	for i, r := range p.Rows {
		l[i] = wide.From(r.B)
	}
	return l
}

// weigh the rows of p: a proof of r, Den behind the weights, if there is one; its numbers can be told, where the way to it meets such.
func weigh(p api.Poly, r api.Row) (wide.Row, bool) {
	b, den := gains(p), len(p.Rows)
	reaches := func(weights wide.Row) bool {
		return b.Dot(weights).Compare(weights[den].Times(wide.From(r.B))) >= 0
	}
	weights, ok := planOf(p, wide.RowOf(r.A)).Best(func(weights wide.Row) bool {
		return reaches(weights) && isTold(weights)
	})
	switch {
	case !ok:
		return nothing(p)
	case weights[den].Sign() == 0:
		return withDen(weights), true
	}
	return weights, reaches(weights)
}

func isTold(weights wide.Row) bool {
	_, err := bound.Tell(weights)
	return err == nil
}

// nothing is there: a proof of that, Den behind the weights, if it is so.
func nothing(p api.Poly) (wide.Row, bool) {
	weights, _ := planOf(p, make(wide.Row, p.Dim)).Best(never)
	if weights[len(p.Rows)].Sign() > 0 {
		return nil, false
	}
	return withDen(weights), true
}

// withDen 1 behind weights of a proof that nothing is there: any would do.
func withDen(weights wide.Row) wide.Row {
	last := len(weights) - 1
	return append(weights[:last:last], wide.From(1))
}

// tries: so many that all choices of three rows are among them, and, of up to twelve rows, all that a proof can need.
const tries = 2600

// byFew rows: a proof of r that can be told, where another one cannot: of fewer rows the weights are smaller.
func byFew(p api.Poly, r api.Row) ([]int, error) {
	var told []int
	left := tries
	try := func(chosen []int) bool {
		some := api.Poly{Dim: p.Dim}
		for _, i := range chosen {
			some.Rows = append(some.Rows, p.Rows[i])
		}
		if weights, ok := weigh(some, r); ok && isTold(weights) {
			told = spread(weights, chosen, len(p.Rows))
		}
		left--
		return told != nil || left == 0
	}
	for size := range p.Dim + 1 {
		if choose(nil, len(p.Rows), size+1, try) {
			break
		}
	}
	if told == nil {
		return nil, api.ErrBound
	}
	return told, nil
}

// spread weights of the chosen of n rows, with Den behind them, over all rows.
func spread(weights wide.Row, chosen []int, n int) []int {
	l := make([]int, n+1)
	for k, i := range append(chosen, n) {
		l[i], _ = weights[k].Int()
	}
	return l
}

// choose so many more of the numbers below n, in order, until try tells to stop; tell whether it did.
func choose(chosen []int, n, more int, try func(chosen []int) bool) bool {
	if more == 0 {
		return try(chosen)
	}
	from := 0
	if len(chosen) > 0 {
		from = chosen[len(chosen)-1] + 1
	}
	for i := from; i <= n-more; i++ {
		if choose(append(chosen, i), n, more-1, try) {
			return true
		}
	}
	return false
}

// Package plan: weights with which rows make up a wanted one, and gain the most.
package plan

import (
	"slices"

	"raycone/wide"
)

// Part of a plan: a row as long as what is wanted, and what it gains.
type Part struct {
	Row  wide.Row
	Gain wide.Num
	Free bool // its weight may be below 0
}

// Plan asks for weights, from 0 on where a part is not Free, with which the parts' rows have the sum Wanted.
type Plan struct {
	Parts  []Part
	Wanted wide.Row
}

// Best weights, and Den behind them, Normal together: with these the sum is Den times what is wanted. They gain the most, or are the first ones on the way there that are enough.
// Den 0: the sum is nothing but 0 and they gain something, so that there is no most. False: no weights make up what is wanted.
func (p Plan) Best(enough func(weights wide.Row) bool) (wide.Row, bool) {
	columns := p.columns()
	t := tableOf(columns, p.Wanted)
	if !t.fill() {
		return nil, false
	}
	column := t.climb(t.gain(), func() bool { return enough(p.fold(t.weights())) })
	if column >= 0 {
		return p.fold(t.endless(column)), true
	}
	return p.fold(t.weights()), true
}

// columns of weights from 0 on: a Free part has two, its opposite behind all parts.
func (p Plan) columns() []Part {
	columns := slices.Clone(p.Parts)
	for _, part := range p.Parts {
		if part.Free {
			columns = append(columns, Part{Row: part.Row.Each(wide.Num.Negated), Gain: part.Gain.Negated()})
		}
	}
	return columns
}

// fold weights of columns, with Den behind them, into weights of parts.
func (p Plan) fold(weights wide.Row) wide.Row {
	l := slices.Clone(weights[:len(p.Parts)])
	opposite := len(p.Parts)
	for i, part := range p.Parts {
		if part.Free {
			l[i] = l[i].Minus(weights[opposite])
			opposite++
		}
	}
	return append(l, weights[opposite]).Normal()
}

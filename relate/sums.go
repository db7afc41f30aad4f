package relate

import (
	"slices"

	"raycone/api"
	"raycone/lang"
	"raycone/linear"
	"raycone/octagon"
)

// chosen: how often each chosen variable is in a sum; false: another one is in it, too, so that it can be anything.
func (v view) chosen(s linear.Sum) ([]int, bool) {
	times := make([]int, len(v.choice))
	for n, many := range s.Times {
		x := slices.Index(v.choice, n)
		switch {
		case x >= 0:
			times[x] = many
		case many != 0:
			return nil, false
		}
	}
	return times, true
}

// like: a sum, but for what is added, is a sign times a variable.
func like(times []int) (sign, x int, ok bool) {
	for i, n := range times {
		switch {
		case n == 0:
		case sign != 0 || n < -1 || n > 1:
			return 0, 0, false
		default:
			sign, x = n, i
		}
	}
	return sign, x, true
}

// side of a number: it, or its opposite, as a sign says, is at most so much.
type side struct{ sign, most int }

// sides of a difference of which it is told how it stands to 0: rows, of one of which each holds.
func sides(rel string) [][]side {
	switch rel {
	case "<":
		return [][]side{{{1, -1}}}
	case "<=":
		return [][]side{{{1, 0}}}
	case "==":
		return [][]side{{{1, 0}, {-1, 0}}}
	case "!=":
		return [][]side{{{1, -1}}, {{-1, -1}}}
	case ">":
		return [][]side{{{-1, -1}}}
	}
	return [][]side{{{-1, 0}}}
}

// rows of limits, of one of which each holds where a test does, and, if all its variables are chosen, nowhere else; false: octagons have none such.
func (v view) rows(t lang.Test) ([][]octagon.Limit, bool) {
	a, isSum := linear.Of(t.A, v.names.Vars, api.MaxBound)
	b, areSums := linear.Of(t.B, v.names.Vars, api.MaxBound)
	if !isSum || !areSums {
		return nil, false
	}
	difference := a.Less(b)
	times, ok := v.chosen(difference)
	if !ok {
		return [][]octagon.Limit{nil}, true
	}
	rows := sides(t.Rel)
	out := make([][]octagon.Limit, len(rows))
	for i, row := range rows {
		for _, s := range row {
			l, ok := limit(times, s, difference.More)
			if !ok {
				return nil, false
			}
			out[i] = append(out[i], l)
		}
	}
	return out, true
}

// limit of a sum by one side of it; false: octagons have none such.
func limit(times []int, s side, more int) (octagon.Limit, bool) {
	l, all := octagon.Limit{}, 1
	for x, n := range times {
		switch n *= s.sign; {
		case n == 0:
		case l.A == 0:
			all = max(n, -n)
			l.A, l.X = n/all, x
		case l.B == 0 && max(n, -n) == all:
			l.B, l.Y = n/all, x
		default:
			return octagon.Limit{}, false
		}
	}
	l.C = down(s.most-s.sign*more, all)
	return l, true
}

// down to a whole number: a over b, which is above 0. Sums of whole numbers are at most that.
func down(a, b int) int {
	if a%b < 0 {
		return a/b - 1
	}
	return a / b
}

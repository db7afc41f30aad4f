package interval

import (
	"math"

	"raycone/api"
)

// far stands for no bound upward, its opposite for none downward; and for all that is beyond MaxBound, as it is told alike.
const far = math.MaxInt

// ends of an interval: the low one, and the high one. Where the low one is above the high one, there is nothing.
type ends [2]int

func endsOf(a api.Interval) ends {
	e := ends{a.Low, a.High}
	if a.Down {
		e[0] = -far
	}
	if a.Up {
		e[1] = far
	}
	return e
}

// told as an interval: a bound that is too great is none where it can be left out, else the greatest that may be told.
func (e ends) told() api.Interval {
	var a api.Interval
	if a.Down = e[0] < -api.MaxBound; !a.Down {
		a.Low = min(e[0], api.MaxBound)
	}
	if a.Up = e[1] > api.MaxBound; !a.Up {
		a.High = max(e[1], -api.MaxBound)
	}
	return a
}

// nothing, joined with others, leaves them as they are.
func nothing() ends { return ends{far, -far} }

func (e ends) isNone() bool { return e[0] > e[1] }

func (e ends) isOne() bool { return e[0] == e[1] }

func (e ends) join(f ends) ends { return ends{min(e[0], f[0]), max(e[1], f[1])} }

func (e ends) meet(f ends) ends {
	if e = (ends{max(e[0], f[0]), min(e[1], f[1])}); e.isNone() {
		return nothing()
	}
	return e
}

func (e ends) opposite() ends { return ends{-e[1], -e[0]} }

// from n on: what of e is there.
func (e ends) from(n int) ends { return e.meet(ends{n, far}) }

// to n: what of e is there.
func (e ends) to(n int) ends { return e.meet(ends{-far, n}) }

// widened by f, to stops where there are such.
func (e ends) widened(f ends, stops []int) ends {
	low, high := -far, far
	for _, n := range stops {
		if n <= f[0] {
			low = max(low, n)
		}
		if n >= f[1] {
			high = min(high, n)
		}
	}
	if f[0] < e[0] {
		e[0] = low
	}
	if f[1] > e[1] {
		e[1] = high
	}
	return e
}

// narrowed by f, where there is no bound yet.
func (e ends) narrowed(f ends) ends {
	if e[0] == -far {
		e[0] = f[0]
	}
	if e[1] == far {
		e[1] = f[1]
	}
	return e
}

// refined to the numbers of a and b that have one beside them to which they stand so.
func refined(a, b ends, how string) (x, y ends, err error) {
	switch how {
	case "<":
		x, y = below(a, b, 1)
	case "<=":
		x, y = below(a, b, 0)
	case "=":
		x, y = a.meet(b), b.meet(a)
	case "!=":
		x, y = a.without(b), b.without(a)
	case ">":
		y, x = below(b, a, 1)
	case ">=":
		y, x = below(b, a, 0)
	default:
		err = api.ErrText
	}
	return x, y, err
}

// below: the numbers of a and b of which those of a are so much less, at least.
func below(a, b ends, much int) (x, y ends) {
	return a.to(sum(b[1], -much)), b.from(sum(a[0], much))
}

// without the number that f is, if it is one: only at an end can it be left out.
func (e ends) without(f ends) ends {
	if !f.isOne() {
		return e
	}
	if e[0] == f[0] {
		e[0]++
	}
	if e[1] == f[1] {
		e[1]--
	}
	return e
}

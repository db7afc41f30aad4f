package congr

import (
	"raycone/api"
	"raycone/interval"
)

func (a Congr) has(n int) bool { return rest(n, a.Mod) == a.Rest }

// least congruence that has n and, from each number of its own, each step further; all numbers where it would be too great.
func least(n int, steps ...int) Congr {
	mod := divisor(steps...)
	a := Congr{Rest: rest(n, mod), Mod: mod}
	if Valid(a) != nil {
		return Congr{Rest: 0, Mod: 1}
	}
	return a
}

// meet: the numbers of both; a where that would be too great.
func meet(a, b Congr) (Congr, bool) {
	common, apart := divisor(a.Mod, b.Mod), b.Rest-a.Rest
	switch {
	case rest(apart, common) != 0:
		return Congr{}, false
	case a.Mod == 0:
		return a, true
	case b.Mod == 0:
		return b, true
	}
	// Of so many numbers of a, one after the other, just one is of b.
	many := b.Mod / common
	if a.Mod*many > api.MaxModule {
		return a, true
	}
	steps := rest(apart/common*inverse(a.Mod/common, many), many)
	return least(a.Rest+steps*a.Mod, a.Mod*many), true
}

// tight: the least interval that has the numbers of both, if there are such.
func tight(a Congr, b api.Interval) (api.Interval, bool) {
	if a.Mod == 0 {
		if !interval.Has(b, a.Rest) {
			return api.Interval{}, false
		}
		return api.Interval{Low: a.Rest, High: a.Rest}, true
	}
	if !b.Down {
		b.Low += rest(a.Rest-b.Low, a.Mod)
	}
	if !b.Up {
		b.High -= rest(b.High-a.Rest, a.Mod)
	}
	if !b.Down && !b.Up && b.Low > b.High {
		return api.Interval{}, false
	}
	// The first number may lie beyond what a bound may be, where the other side goes on and on.
	b.Low, b.High = min(b.Low, api.MaxBound), max(b.High, -api.MaxBound)
	return b, true
}

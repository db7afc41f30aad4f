package compile

import (
	"raycone/api"
	"raycone/interval"
	"raycone/lang"
	"raycone/scan"
)

// arithmetic of a sign: its op, and, where what it makes may be too great, of which numbers that is.
type arithmetic struct {
	op   string
	made func(a, b api.Interval) (api.Interval, error)
}

func arithmetics() map[string]arithmetic {
	return map[string]arithmetic{
		"+": {"add", interval.Add},
		"-": {"sub", interval.Sub},
		"*": {"mul", interval.Mul},
		"/": {"div", nil},
		"%": {"rem", nil},
	}
}

// term is written, of which so much is seen.
func (w *writer) term(e lang.Expr, has scan.Seen) {
	switch e.Op {
	case "num":
		w.op("push", e.N)
		return
	case "var":
		w.op("load", w.variable(e.Name))
		return
	case "at":
		w.place(e.Name, e.L[0], has.Parts[0])
		w.op("get", w.array(e.Name))
		return
	case "neg":
		w.term(e.L[0], has.Parts[0])
		w.op("neg", 0)
		return
	}
	a, b := has.Parts[0], has.Parts[1]
	w.term(e.L[0], a)
	w.term(e.L[1], b)
	if sign := w.signs[e.Op]; sign.made == nil {
		w.check("nonzero", 0, isNever0(b))
		w.op(sign.op, 0)
	} else {
		w.op(sign.op, 0)
		w.check("small", 0, isSmall(a.Has, b.Has, sign.made))
	}
}

// place of an array is written, and that it is one.
func (w *writer) place(name string, e lang.Expr, has scan.Seen) {
	w.term(e, has)
	size := w.Arrays[w.array(name)]
	w.check("within", size, isWithin(has.Has, api.Interval{High: size - 1}))
}

// isWithin: all that comes lies there. (Where nothing comes Has is 0, which lies in all that is asked for.)
func isWithin(a, all api.Interval) bool {
	is, err := interval.Within(a, all)
	return is && err == nil
}

func isNever0(s scan.Seen) bool { return !s.Right || !interval.Has(s.Has, 0) }

// isSmall: whatever is made of two is no greater than a value may be.
func isSmall(a, b api.Interval, made func(a, b api.Interval) (api.Interval, error)) bool {
	x, err := made(a, b)
	return err == nil && isWithin(x, api.Interval{Low: -api.MaxValue, High: api.MaxValue})
}

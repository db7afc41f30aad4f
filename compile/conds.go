package compile

import "raycone/lang"

// relation of two terms: its op, which may have to be handed them the other way round.
type relation struct {
	op     string
	turned bool
}

func relations() map[string]relation {
	return map[string]relation{
		"<": {"lt", false}, ">": {"lt", true},
		"<=": {"le", false}, ">=": {"le", true},
		"==": {"eq", false}, "!=": {"ne", false},
	}
}

// cond is written: where it holds it is gone on behind it; else the last test to be looked at ends with an op of this name. Those ops are told: where they lead to is not yet said.
func (w *writer) cond(c lang.Cond, at sight, name string) []int {
	if len(c) == 0 {
		w.op("push", 0)
		return []int{w.op(name, 0)}
	}
	var held []int
	last := len(c) - 1
	for _, row := range c[:last] {
		var lacks []int
		lacks, at = w.row(row, at, "unless")
		held = append(held, w.op("jump", 0))
		w.land(lacks)
	}
	lacks, _ := w.row(c[last], at, name)
	w.land(held)
	return lacks
}

// row of tests is written, each with an op of this name behind it; and what is known where one of them does not hold.
func (w *writer) row(l []lang.Test, at sight, name string) (lacks []int, not sight) {
	not = at.nowhere()
	for _, t := range l {
		w.test(t, at)
		lacks = append(lacks, w.op(name, 0))
		not = not.or(at.unless(t))
		at = at.where(t)
	}
	return lacks, not
}

// test is written: it becomes 1 or 0. Which side is worked out first shows nowhere: if one is wrong, so is the test.
func (w *writer) test(t lang.Test, at sight) {
	a, b := t.A, t.B
	r := w.relations[t.Rel]
	if r.turned {
		a, b = b, a
	}
	w.term(a, at.see(a))
	w.term(b, at.see(b))
	w.op(r.op, 0)
}

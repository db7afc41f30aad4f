package check

import (
	"slices"

	"raycone/lang"
)

// kind of what a name stands for.
type kind int

const (
	none kind = iota
	variable
	array
	procedure
)

// part of a program, a procedure or main: its statements, and what stands around them.
type part struct {
	vars    []string
	params  []string
	arrays  []lang.Array
	ahead   []lang.Proc // those that it may call
	body    []lang.Stmt
	returns []lang.Expr // none, of main
}

// partOf a program: a procedure, or, of the number behind the last one, main.
func partOf(p lang.Program, number int) part {
	x := part{vars: p.Vars, arrays: p.Arrays, ahead: p.Procs[:number], body: p.Main}
	if number < len(p.Procs) {
		proc := p.Procs[number]
		x.params, x.body, x.returns = proc.Params, proc.Body, []lang.Expr{proc.Return}
	}
	return x
}

// everyPart of a program, in the order of the text, is so.
func everyPart(p lang.Program, is func(x part) bool) bool {
	for number := range len(p.Procs) + 1 {
		if !is(partOf(p, number)) {
			return false
		}
	}
	return true
}

// walk through statements, and those in their blocks, in the order of the text.
func walk(l []lang.Stmt, see func(s lang.Stmt)) {
	for _, s := range l {
		see(s)
		walk(s.Body, see)
		walk(s.Else, see)
	}
}

// uses hands on each name that a term or statement of the part uses, and as what.
func (x part) uses(see func(as kind, name string)) {
	var terms func(l []lang.Expr)
	terms = func(l []lang.Expr) {
		for _, e := range l {
			switch e.Op {
			case "var":
				see(variable, e.Name)
			case "at":
				see(array, e.Name)
			}
			terms(e.L)
		}
	}
	walk(x.body, func(s lang.Stmt) {
		switch s.Kind {
		case "set", "read":
			see(variable, s.Name)
		case "put":
			see(array, s.Name)
		case "call":
			see(variable, s.Name)
			see(procedure, s.Proc)
		}
		terms(s.Args)
		for _, t := range slices.Concat(s.Cond...) {
			terms([]lang.Expr{t.A, t.B})
		}
	})
	terms(x.returns)
}

// callee's number, or -1: the part may not call it.
func (x part) callee(name string) int {
	return slices.IndexFunc(x.ahead, func(c lang.Proc) bool { return c.Name == name })
}

// known is what a name stands for in the part.
func (x part) known(name string) kind {
	switch {
	case slices.Contains(x.vars, name), slices.Contains(x.params, name):
		return variable
	case slices.ContainsFunc(x.arrays, func(a lang.Array) bool { return a.Name == name }):
		return array
	case x.callee(name) >= 0:
		return procedure
	}
	return none
}

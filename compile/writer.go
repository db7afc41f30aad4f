package compile

import (
	"slices"

	"raycone/lang"
)

// writer of code for a program without calls.
type writer struct {
	Code
	p         lang.Program
	signs     map[string]arithmetic
	relations map[string]relation
	sights    []sight // of each statement; none: of all nothing is known
	met       int     // how many statements were met
}

// written code; of much too many ops not all.
func written(p lang.Program, sights []sight) Code {
	w := &writer{Code: Code{Vars: len(p.Vars)}, p: p, signs: arithmetics(), relations: relations(), sights: sights}
	for _, a := range p.Arrays {
		w.Arrays = append(w.Arrays, a.Size)
	}
	w.block(p.Main)
	return w.Code
}

// op is written: where it stands.
func (w *writer) op(name string, n int) int {
	w.Ops = append(w.Ops, Op{Name: name, N: n})
	return len(w.Ops) - 1
}

// check is written, if it may not hold.
func (w *writer) check(name string, n int, holds bool) {
	if !holds {
		w.op(name, n)
	}
}

// land jumps here.
func (w *writer) land(jumps []int) {
	for _, i := range jumps {
		w.Ops[i].N = len(w.Ops)
	}
}

func (w *writer) variable(name string) int { return slices.Index(w.p.Vars, name) }

func (w *writer) array(name string) int {
	return slices.IndexFunc(w.p.Arrays, func(a lang.Array) bool { return a.Name == name })
}

// sight of the next statement.
func (w *writer) sight() sight {
	w.met++
	if w.met > len(w.sights) {
		return sight{}
	}
	return w.sights[w.met-1]
}

// block of statements. What is too much already does not grow: else calls could make very many ops.
func (w *writer) block(l []lang.Stmt) {
	for _, s := range l {
		if len(w.Ops) > maxOps {
			return
		}
		w.statement(s)
	}
}

func (w *writer) statement(s lang.Stmt) {
	at := w.sight()
	switch s.Kind {
	case "set":
		w.term(s.Args[0], at.see(s.Args[0]))
		w.op("store", w.variable(s.Name))
	case "put":
		w.place(s.Name, s.Args[0], at.see(s.Args[0]))
		w.term(s.Args[1], at.see(s.Args[1]))
		w.op("put", w.array(s.Name))
	case "read":
		w.op("read", 0)
		w.op("store", w.variable(s.Name))
	case "if":
		w.branches(s, at)
	case "while":
		w.loop(s, at)
	default:
		w.cond(s.Cond, at, s.Kind)
	}
}

func (w *writer) branches(s lang.Stmt, at sight) {
	lacks := w.cond(s.Cond, at, "unless")
	w.block(s.Body)
	if len(s.Else) > 0 {
		end := w.op("jump", 0)
		w.land(lacks)
		w.block(s.Else)
		lacks = []int{end}
	}
	w.land(lacks)
}

func (w *writer) loop(s lang.Stmt, at sight) {
	head := len(w.Ops)
	lacks := w.cond(s.Cond, at, "unless")
	w.block(s.Body)
	w.op("jump", head)
	w.land(lacks)
}

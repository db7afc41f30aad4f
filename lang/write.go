package lang

import (
	"strconv"
	"strings"

	"raycone/api"
)

// writer of a text: that there is none is thrown.
type writer struct {
	strings.Builder
	roles roles
	terms int
}

// noText is what a writer throws.
type noText struct{}

// textOf a program, as far as it can be written: what it is read as is not looked at.
func textOf(p Program) (s string, ok bool) {
	defer func() {
		if _, thrown := recover().(noText); thrown {
			s, ok = "", false
		}
	}()
	w := &writer{roles: wordRoles()}
	w.program(p)
	return w.String(), true
}

// put texts one behind the other. None is written that would be too long to be read: however much a program holds, its writing ends.
func (w *writer) put(texts ...string) {
	for _, s := range texts {
		if len(s) > api.MaxText-w.Len() {
			panic(noText{})
		}
		w.WriteString(s)
	}
}

// indent for blocks.
func (w *writer) indent(blocks int) {
	for range blocks {
		w.put("  ")
	}
}

// between puts a text between so many things.
func (w *writer) between(text string, many int, one func(i int)) {
	for i := range many {
		if i > 0 {
			w.put(text)
		}
		one(i)
	}
}

func (w *writer) program(p Program) {
	for _, name := range p.Vars {
		w.put("var ", name, ";\n")
	}
	for _, a := range p.Arrays {
		w.put("array ", a.Name, "[", strconv.Itoa(a.Size), "];\n")
	}
	for _, c := range p.Procs {
		w.procedure(c)
	}
	w.put("main {\n")
	w.statements(p.Main, 1)
	w.put("}\n")
}

func (w *writer) procedure(p Proc) {
	w.put("proc ", p.Name, "(")
	w.between(", ", len(p.Params), func(i int) { w.put(p.Params[i]) })
	w.put(") {\n")
	w.statements(p.Body, 1)
	w.indent(1)
	w.put("return ")
	w.term(p.Return, sumSign)
	w.put(";\n}\n")
}

func (w *writer) statements(l []Stmt, blocks int) {
	for _, s := range l {
		w.indent(blocks)
		w.statement(s, blocks)
	}
}

func (w *writer) statement(s Stmt, blocks int) {
	switch s.Kind {
	case "set":
		w.put(s.Name, " = ")
		w.term(pick(s.Args, 0), sumSign)
		w.put(";\n")
	case "put":
		w.put(s.Name, "[")
		w.term(pick(s.Args, 0), sumSign)
		w.put("] = ")
		w.term(pick(s.Args, 1), sumSign)
		w.put(";\n")
	case "call":
		w.put(s.Name, " = call ", s.Proc, "(")
		w.between(", ", len(s.Args), func(i int) { w.term(s.Args[i], sumSign) })
		w.put(");\n")
	case "if", "while":
		w.put(s.Kind, " ")
		w.cond(s.Cond)
		w.branches(s, blocks)
	case "assert", "assume":
		w.put(s.Kind, " ")
		w.cond(s.Cond)
		w.put(";\n")
	case "read":
		w.put("read ", s.Name, ";\n")
	default:
		panic(noText{})
	}
}

// branches of a statement, behind its condition.
func (w *writer) branches(s Stmt, blocks int) {
	w.put(" {\n")
	w.statements(s.Body, blocks+1)
	if len(s.Else) > 0 {
		w.indent(blocks)
		w.put("} else {\n")
		w.statements(s.Else, blocks+1)
	}
	w.indent(blocks)
	w.put("}\n")
}

func (w *writer) cond(c Cond) {
	if len(c) == 0 {
		w.put("false")
	}
	w.between(" or ", len(c), func(i int) { w.row(c[i]) })
}

func (w *writer) row(l []Test) {
	if len(l) == 0 {
		w.put("true")
	}
	w.between(" and ", len(l), func(i int) {
		w.term(l[i].A, sumSign)
		w.put(" ", l[i].Rel, " ")
		w.term(l[i].B, sumSign)
	})
}

// term, in brackets if it does not hold together as close as is asked.
func (w *writer) term(e Expr, least role) {
	w.count()
	sign := w.roles[e.Op]
	switch {
	case e.Op == "num":
		w.put(strconv.Itoa(e.N))
	case e.Op == "var":
		w.put(e.Name)
	case e.Op == "at":
		w.put(e.Name, "[")
		w.term(pick(e.L, 0), sumSign)
		w.put("]")
	case e.Op == "neg":
		w.put("-")
		w.term(pick(e.L, 0), onePart)
	case sign < sumSign:
		panic(noText{})
	case sign < least:
		w.put("(")
		w.pair(e, sign)
		w.put(")")
	default:
		w.pair(e, sign)
	}
}

// pair of terms with a sign between: as they group from the left, the right one must hold together closer.
func (w *writer) pair(e Expr, sign role) {
	w.term(pick(e.L, 0), sign)
	w.put(" ", e.Op, " ")
	w.term(pick(e.L, 1), sign+1)
}

// count a term: each has a byte at least, which may come late, behind many that are begun ahead of it.
func (w *writer) count() {
	w.terms++
	if w.terms > api.MaxText {
		panic(noText{})
	}
}

// pick a term of those that a kind asks for.
func pick(l []Expr, i int) Expr {
	if i >= len(l) {
		panic(noText{})
	}
	return l[i]
}

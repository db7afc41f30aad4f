package lang

import (
	"strconv"

	"raycone/api"
)

// reader of a text, word by word: what cannot be read is thrown, as an *api.Fault.
type reader struct {
	text  string
	roles roles
	ahead word
}

func newReader(s string) *reader {
	r := &reader{text: s, roles: wordRoles()}
	r.ahead = r.roles.wordFrom(s, 0)
	return r
}

func (r *reader) throw(err error) { panic(&api.Fault{At: r.ahead.at, Err: err}) }

// pass the word ahead.
func (r *reader) pass() string {
	text := r.ahead.text
	r.ahead = r.roles.wordFrom(r.text, r.ahead.at+len(text))
	return text
}

// take a word, if it stands ahead.
func (r *reader) take(text string) bool {
	if r.ahead.text != text {
		return false
	}
	r.pass()
	return true
}

// want words one behind the other: no others can stand there.
func (r *reader) want(texts ...string) {
	for _, text := range texts {
		if !r.take(text) {
			r.throw(api.ErrText)
		}
	}
}

// wantOf a role: no word of another one can stand there.
func (r *reader) wantOf(is role) string {
	if r.ahead.role != is {
		r.throw(api.ErrText)
	}
	return r.pass()
}

func (r *reader) name() string { return r.wantOf(nameWord) }

func (r *reader) number() int {
	// A word of this role is a number that an int holds.
	n, _ := strconv.Atoi(r.wantOf(numberWord))
	return n
}

func (r *reader) program() Program {
	var p Program
	for r.take("var") {
		p.Vars = append(p.Vars, r.name())
		r.want(";")
	}
	for r.take("array") {
		p.Arrays = append(p.Arrays, r.array())
	}
	for r.take("proc") {
		p.Procs = append(p.Procs, r.procedure())
	}
	r.want("main")
	p.Main = r.block(1)
	r.wantOf(endOfText)
	return p
}

func (r *reader) array() Array {
	var a Array
	a.Name = r.name()
	r.want("[")
	a.Size = r.number()
	r.want("]", ";")
	return a
}

func (r *reader) procedure() Proc {
	var p Proc
	p.Name = r.name()
	r.want("(")
	r.list(func() { p.Params = append(p.Params, r.name()) })
	r.want("{")
	p.Body = r.statements(1)
	r.want("return")
	p.Return = r.sum(1)
	r.want(";", "}")
	return p
}

// list of things with commas between, up to its closing bracket.
func (r *reader) list(one func()) {
	if r.take(")") {
		return
	}
	one()
	for r.take(",") {
		one()
	}
	r.want(")")
}

// block of statements that are so deep.
func (r *reader) block(deep int) []Stmt {
	r.want("{")
	l := r.statements(deep)
	r.want("}")
	return l
}

func (r *reader) statements(deep int) []Stmt {
	var l []Stmt
	for r.ahead.role == nameWord || r.ahead.role == firstWord {
		if deep > api.MaxDeep {
			r.throw(api.ErrBound)
		}
		l = append(l, r.statement(deep))
	}
	return l
}

func (r *reader) statement(deep int) Stmt {
	if r.ahead.role == nameWord {
		return r.change()
	}
	s := Stmt{Kind: r.pass()}
	switch s.Kind {
	case "if":
		s.Cond = r.cond()
		s.Body = r.block(deep + 1)
		if r.take("else") {
			s.Else = r.block(deep + 1)
		}
	case "while":
		s.Cond = r.cond()
		s.Body = r.block(deep + 1)
	case "assert", "assume":
		s.Cond = r.cond()
		r.want(";")
	case "read":
		s.Name = r.name()
		r.want(";")
	}
	return s
}

// change of what has the name ahead.
func (r *reader) change() Stmt {
	s := Stmt{Kind: "set", Name: r.name()}
	if r.take("[") {
		s.Kind = "put"
		s.Args = append(s.Args, r.sum(1))
		r.want("]")
	}
	r.want("=")
	if s.Kind == "set" && r.take("call") {
		s.Kind = "call"
		s.Proc = r.name()
		r.want("(")
		r.list(func() { s.Args = append(s.Args, r.sum(1)) })
	} else {
		s.Args = append(s.Args, r.sum(1))
	}
	r.want(";")
	return s
}

func (r *reader) cond() Cond {
	if r.take("false") {
		return nil
	}
	c := Cond{r.row()}
	for r.take("or") {
		c = append(c, r.row())
	}
	return c
}

func (r *reader) row() []Test {
	if r.take("true") {
		return nil
	}
	l := []Test{r.test()}
	for r.take("and") {
		l = append(l, r.test())
	}
	return l
}

func (r *reader) test() Test {
	var t Test
	t.A = r.sum(1)
	t.Rel = r.wantOf(relation)
	t.B = r.sum(1)
	return t
}

func (r *reader) sum(deep int) Expr { return r.grouped(sumSign, r.product, deep) }

func (r *reader) product(deep int) Expr { return r.grouped(productSign, r.part, deep) }

// grouped from the left: parts, with signs of a role between.
func (r *reader) grouped(sign role, part func(deep int) Expr, deep int) Expr {
	e := part(deep)
	for r.ahead.role == sign {
		op := r.pass()
		e = Expr{Op: op, L: []Expr{e, part(deep)}}
	}
	return e
}

func (r *reader) part(deep int) Expr {
	switch {
	case r.deeper("-", deep):
		return Expr{Op: "neg", L: []Expr{r.part(deep + 1)}}
	case r.deeper("(", deep):
		e := r.sum(deep + 1)
		r.want(")")
		return e
	case r.ahead.role == numberWord:
		return Expr{Op: "num", N: r.number()}
	}
	e := Expr{Op: "var", Name: r.name()}
	if r.deeper("[", deep) {
		e.Op, e.L = "at", []Expr{r.sum(deep + 1)}
		r.want("]")
	}
	return e
}

// deeper by a sign, if it stands ahead.
func (r *reader) deeper(sign string, deep int) bool {
	if r.ahead.text == sign && deep >= api.MaxDeep {
		r.throw(api.ErrBound)
	}
	return r.take(sign)
}

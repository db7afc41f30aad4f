package check

import (
	"slices"

	"raycone/fresh"
	"raycone/lang"
)

// maxStatements that may be left when all calls are gone.
const maxStatements = 400

// extent of statements, when all calls are gone: how many they are, and how deep they stand in each other.
type extent struct{ many, deep int }

// and what stands beside it. More than too many are not told apart: so no number is too great to be told.
func (e extent) and(f extent) extent {
	return extent{many: min(e.many+f.many, maxStatements+1), deep: max(e.deep, f.deep)}
}

// extentOf a right program's main.
func extentOf(p lang.Program) extent {
	procs := map[string]extent{}
	for _, c := range p.Procs {
		own := extent{many: len(c.Params) + 1, deep: 1}
		procs[c.Name] = own.and(extentOfBlock(c.Body, procs))
	}
	return extentOfBlock(p.Main, procs)
}

// extentOfBlock of statements, with what is known of the procedures that they call.
func extentOfBlock(l []lang.Stmt, procs map[string]extent) extent {
	var all extent
	for _, s := range l {
		if s.Kind == "call" {
			all = all.and(procs[s.Proc])
			continue
		}
		inner := extentOfBlock(s.Body, procs).and(extentOfBlock(s.Else, procs))
		all = all.and(extent{many: inner.many + 1, deep: inner.deep + 1})
	}
	return all
}

// withoutCalls: a right program, when all calls are gone. Nothing of it is p's memory.
func withoutCalls(p lang.Program) lang.Program {
	out := lang.Program{Vars: slices.Clone(p.Vars), Arrays: slices.Clone(p.Arrays)}
	procs := map[string]lang.Proc{}
	for _, c := range p.Procs {
		procs[c.Name] = c
		out.Vars = append(out.Vars, c.Params...)
	}
	out.Main = laidOut(p.Main, procs)
	return out
}

// laidOut statements: what they become, in new memory.
func laidOut(l []lang.Stmt, procs map[string]lang.Proc) []lang.Stmt {
	var out []lang.Stmt
	for _, s := range l {
		if s.Kind == "call" {
			out = append(out, laidOutCall(s, procs)...)
			continue
		}
		s.Args, s.Cond = fresh.Terms(s.Args), fresh.Cond(s.Cond)
		s.Body, s.Else = laidOut(s.Body, procs), laidOut(s.Else, procs)
		out = append(out, s)
	}
	return out
}

func laidOutCall(s lang.Stmt, procs map[string]lang.Proc) []lang.Stmt {
	var out []lang.Stmt
	set := func(name string, to lang.Expr) {
		out = append(out, lang.Stmt{Kind: "set", Name: name, Args: fresh.Terms([]lang.Expr{to})})
	}
	c := procs[s.Proc]
	for i, name := range c.Params {
		set(name, s.Args[i])
	}
	out = append(out, laidOut(c.Body, procs)...)
	set(s.Name, c.Return)
	return out
}

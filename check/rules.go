package check

import (
	"raycone/api"
	"raycone/lang"
)

// isTooMuch: more names, procedures or places than a program may have, or an array without places.
func isTooMuch(p lang.Program) bool {
	names := len(p.Vars) + len(p.Arrays)
	for _, c := range p.Procs {
		names += len(c.Params)
	}
	if names > api.MaxNames || len(p.Procs) > api.MaxProcs {
		return true
	}
	for _, a := range p.Arrays {
		if a.Size < 1 || a.Size > api.MaxArray {
			return true
		}
	}
	return false
}

// hasTwins: a name is given twice.
func hasTwins(p lang.Program) bool {
	given := map[string]int{}
	give := func(names ...string) {
		for _, name := range names {
			given[name]++
		}
	}
	give(p.Vars...)
	for _, a := range p.Arrays {
		give(a.Name)
	}
	for _, c := range p.Procs {
		give(c.Name)
		give(c.Params...)
	}
	for _, many := range given {
		if many > 1 {
			return true
		}
	}
	return false
}

// usesKnown: the part uses each name as what it stands for.
func usesKnown(x part) bool {
	is := true
	x.uses(func(as kind, name string) { is = is && x.known(name) == as })
	return is
}

// callsFit: each call has as many arguments as there are parameters.
func callsFit(x part) bool {
	is := true
	walk(x.body, func(s lang.Stmt) {
		if s.Kind == "call" {
			is = is && len(s.Args) == len(x.ahead[x.callee(s.Proc)].Params)
		}
	})
	return is
}

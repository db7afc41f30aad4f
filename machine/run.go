package machine

import "raycone/lang"

// What ends a run ahead of its last statement is thrown, as one of these.
type (
	stuck  struct{}
	failed struct{}
	wrong  struct{}
	tired  struct{}
)

// run of a right program. No name stands for two things, and no procedure is called while it is at work: so each parameter has its value beside the variables, until the next call sets it anew.
type run struct {
	procs  map[string]lang.Proc
	vars   map[string]int
	arrays map[string][]int
	input  []int // what is not read yet
	fuel   int
	steps  int
}

func newRun(p lang.Program, input []int, fuel int) *run {
	r := &run{procs: map[string]lang.Proc{}, vars: map[string]int{}, arrays: map[string][]int{}, input: input, fuel: fuel}
	for _, c := range p.Procs {
		r.procs[c.Name] = c
	}
	for _, a := range p.Arrays {
		r.arrays[a.Name] = make([]int, a.Size)
	}
	return r
}

// begin with these values, if they are as many as there are variables, arrays and places.
func (r *run) begin(p lang.Program, vars []int, arrays [][]int) bool {
	if len(vars) != len(p.Vars) || len(arrays) != len(p.Arrays) {
		return false
	}
	for i, name := range p.Vars {
		r.vars[name] = vars[i]
	}
	for i, a := range p.Arrays {
		if len(arrays[i]) != a.Size {
			return false
		}
		copy(r.arrays[a.Name], arrays[i])
	}
	return true
}

// end of main, and as everything is by then.
func (r *run) end(p lang.Program) End {
	e := End{Kind: r.ending(p.Main)}
	e.Steps = r.steps
	for _, name := range p.Vars {
		e.Vars = append(e.Vars, r.vars[name])
	}
	for _, a := range p.Arrays {
		e.Arrays = append(e.Arrays, r.arrays[a.Name])
	}
	return e
}

// ending of statements: what they throw is caught here, and told by its kind.
func (r *run) ending(l []lang.Stmt) (kind string) {
	defer func() {
		switch recover().(type) {
		case stuck:
			kind = "stuck"
		case failed:
			kind = "failed"
		case wrong:
			kind = "wrong"
		case tired:
			kind = "tired"
		}
	}()
	r.block(l)
	return "done"
}

// step that is begun, if there is fuel for it.
func (r *run) step() {
	if r.steps == r.fuel {
		panic(tired{})
	}
	r.steps++
}

func (r *run) block(l []lang.Stmt) {
	for _, s := range l {
		r.step()
		r.statement(s)
	}
}

// statement, of which the first step is begun. What it changes is changed last, so that nothing is when a term is wrong.
func (r *run) statement(s lang.Stmt) {
	switch s.Kind {
	case "set":
		r.vars[s.Name] = r.term(s.Args[0])
	case "put":
		l := r.arrays[s.Name]
		at := r.place(s.Args[0], len(l))
		l[at] = r.term(s.Args[1])
	case "call":
		r.call(s)
	case "if":
		if r.holds(s.Cond) {
			r.block(s.Body)
		} else {
			r.block(s.Else)
		}
	case "while":
		for r.holds(s.Cond) {
			r.block(s.Body)
			r.step()
		}
	case "assert":
		if !r.holds(s.Cond) {
			panic(failed{})
		}
	case "assume":
		if !r.holds(s.Cond) {
			panic(stuck{})
		}
	case "read":
		r.vars[s.Name] = r.next()
	}
}

func (r *run) call(s lang.Stmt) {
	c := r.procs[s.Proc]
	for i, name := range c.Params {
		r.vars[name] = r.term(s.Args[i])
	}
	r.block(c.Body)
	r.vars[s.Name] = r.term(c.Return)
}

// next number of the input.
func (r *run) next() int {
	orWrong(len(r.input) > 0)
	n := r.input[0]
	r.input = r.input[1:]
	return n
}

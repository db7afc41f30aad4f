package compile

import (
	"slices"

	"raycone/api"
	"raycone/machine"
)

// Bounds of code that is run, and of its runs.
const (
	maxVars   = 100
	maxArrays = 100
	maxStack  = 100
	maxFuel   = 100 * api.MaxFuel
)

// refused: input or fuel that is too much, or code that has no shape.
func refused(c Code, input []int, fuel int) error {
	isGreat := func(n int) bool { return isAbove(api.MaxValue, n) }
	if len(input) > api.MaxInput || slices.ContainsFunc(input, isGreat) || fuel < 0 || fuel > maxFuel {
		return api.ErrBound
	}
	isNoSize := func(size int) bool { return size < 0 || size > api.MaxArray }
	if c.Vars < 0 || c.Vars > maxVars || len(c.Arrays) > maxArrays || slices.ContainsFunc(c.Arrays, isNoSize) || len(c.Ops) > maxOps {
		return api.ErrShape
	}
	return nil
}

// isAbove a bound, in size?
func isAbove(most, n int) bool { return n < -most || n > most }

// run of code. Kind is told when it ends; err, if it ends so that nothing else is told.
type run struct {
	machine.End
	code  Code
	does  []operation // what each op does: nothing, if it is none
	input []int       // what is not read yet
	fuel  int
	at    int
	stack []int
	err   error
}

func newRun(c Code, input []int, fuel int) *run {
	r := &run{code: c, does: make([]operation, len(c.Ops)), input: input, fuel: fuel}
	known := operations()
	for i, o := range c.Ops {
		r.does[i] = known[o.Name]
	}
	r.Vars = make([]int, c.Vars)
	for _, size := range c.Arrays {
		r.Arrays = append(r.Arrays, make([]int, size))
	}
	return r
}

// end of the run, op by op.
func (r *run) end() (machine.End, error) {
	for r.Kind == "" && r.err == nil {
		r.step()
	}
	if r.err != nil {
		return machine.End{}, r.err
	}
	return r.End, nil
}

func (r *run) step() {
	switch {
	case r.at == len(r.does):
		r.Kind = "done"
	case r.Steps == r.fuel:
		r.Kind = "tired"
	case !r.fits(r.does[r.at], r.code.Ops[r.at].N):
		r.err = api.ErrShape
	default:
		r.Steps++
		r.at++
		r.does[r.at-1].do(r, r.code.Ops[r.at-1].N)
	}
}

// fits: can an operation, with its N, be done here?
func (r *run) fits(o operation, n int) bool {
	if o.do == nil || o.many != nil && (n < 0 || n >= o.many(r.code)) {
		return false
	}
	return len(r.stack) >= o.takes && len(r.stack)-o.takes+o.gives <= maxStack
}

// fails where no check is: of such a run nothing is told.
func (r *run) fails() { r.err = api.ErrProof }

func (r *run) pop() int {
	n := r.stack[len(r.stack)-1]
	r.stack = r.stack[:len(r.stack)-1]
	return n
}

func (r *run) push(n int) {
	if isAbove(api.MaxTold, n) {
		r.fails()
		return
	}
	r.stack = append(r.stack, n)
}

// place of an array: nil: it is none.
func (r *run) place(array, at int) *int {
	l := r.Arrays[array]
	if at < 0 || at >= len(l) {
		r.fails()
		return nil
	}
	return &l[at]
}

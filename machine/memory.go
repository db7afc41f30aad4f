package machine

import (
	"raycone/check"
	"raycone/lang"
)

// Memory of a program: its variables and places, on which statements are done, some now, others later.
type Memory struct{ run *run }

// NewMemory of variables and arrays, with 0 everywhere. Errors are check.Check's, of a program that has no more than these.
func NewMemory(vars []string, arrays []lang.Array) (Memory, error) {
	p := lang.Program{Vars: vars, Arrays: arrays}
	if err := check.Check(p); err != nil {
		return Memory{}, err
	}
	return Memory{newRun(p, nil, 0)}, nil
}

// Do statements, with so much input and fuel, and tell how that ends, as Run tells it. They are not looked at: what is told of such as no main with these names has, and no procedures, is nothing to go by.
func (m Memory) Do(l []lang.Stmt, input []int, fuel int) string {
	// Fuel below 0 would never be spent.
	m.run.input, m.run.steps, m.run.fuel = input, 0, max(fuel, 0)
	return m.run.ending(l)
}

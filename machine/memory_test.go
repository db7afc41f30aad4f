package machine

import (
	"math/rand"
	"testing"

	"raycone/api"
	"raycone/lang"
)

// remembered values of variables and places.
func remembered(m Memory, p lang.Program) (vars []int, arrays [][]int) {
	for _, name := range p.Vars {
		vars = append(vars, m.run.vars[name])
	}
	for _, a := range p.Arrays {
		arrays = append(arrays, m.run.arrays[a.Name])
	}
	return vars, arrays
}

// What is done bit by bit ends as what is done at once.
func TestMemoryBitByBit(t *testing.T) {
	programs(t, 7, 2000, func(p lang.Program, input []int, r *rand.Rand) {
		if len(p.Procs) > 0 {
			return
		}
		m, err := NewMemory(p.Vars, p.Arrays)
		if err != nil {
			t.Fatal(err)
		}
		want := ran(t, p, input, 300)
		kind, left, fuel := "done", input, 300
		for _, s := range p.Main {
			kind = m.Do([]lang.Stmt{s}, left, fuel)
			left, fuel = m.run.input, fuel-m.run.steps
			if kind != "done" {
				break
			}
		}
		vars, arrays := remembered(m, p)
		if kind != want.Kind || told(vars) != told(want.Vars) || told(arrays) != told(want.Arrays) {
			t.Fatalf("%s: %s %v %v, want %v", told(p), kind, vars, arrays, want)
		}
	})
}

// How each statement ends; one that is not done leaves all as it was.
func TestMemory(t *testing.T) {
	p := read(t, "var x;var y;array a[2];main{x=3;a[1]=4;}")
	m, err := NewMemory(p.Vars, p.Arrays)
	if err != nil || m.Do(p.Main, nil, 2) != "done" {
		t.Fatal(err)
	}
	for _, c := range []struct {
		main  string
		input []int
		fuel  int
		want  string
	}{
		{"", nil, 0, "done"},
		{"assume x==3;", nil, 1, "done"},
		{"assume x==4;", nil, 1, "stuck"},
		{"assert x==4;", nil, 1, "failed"},
		{"x=1/y;", nil, 1, "wrong"},
		{"a[2]=1;", nil, 1, "wrong"},
		{"read x;", nil, 1, "wrong"},
		{"read x;", []int{9}, 0, "tired"},
		{"x=9;", nil, 0, "tired"},
		{"x=9;", nil, -1, "tired"},
		{"while true{}", nil, -1 << 63, "tired"},
		{"while true{}", nil, 1000, "tired"},
	} {
		if got := m.Do(read(t, "var x;var y;array a[2];main{"+c.main+"}").Main, c.input, c.fuel); got != c.want {
			t.Errorf("%s: %s, want %s", c.main, got, c.want)
		}
		if vars, arrays := remembered(m, p); told(vars) != "[3 0]" || told(arrays) != "[[0 4]]" {
			t.Error(c.main, vars, arrays)
		}
	}
	if kind := m.Do(read(t, "var x;main{read x;}").Main, []int{5, 6}, 1); kind != "done" || m.run.vars["x"] != 5 {
		t.Error(kind, m.run.vars)
	}
	// One memory knows nothing of another one.
	n, err := NewMemory(p.Vars, p.Arrays)
	if vars, arrays := remembered(n, p); told(vars) != "[0 0]" || told(arrays) != "[[0 0]]" || err != nil {
		t.Error(vars, arrays, err)
	}
}

// Statements that are none are no reason to panic; names that are none are told.
func TestMemoryOfNone(t *testing.T) {
	m, err := NewMemory([]string{"x"}, nil)
	if err != nil {
		t.Fatal(err)
	}
	for _, s := range []lang.Stmt{{}, {Kind: "?"}, {Kind: "set"}, {Kind: "put", Name: "x"}, {Kind: "call", Proc: "f"}, {Kind: "assume", Cond: lang.Cond{{{}}}}, {Kind: "set", Name: "x", Args: []lang.Expr{{Op: "+"}}}} {
		m.Do([]lang.Stmt{s}, nil, 5)
	}
	if m.Do(nil, nil, 0) != "done" || m.run.vars["x"] != 0 {
		t.Error(m.run.vars)
	}
	for _, c := range []struct {
		vars   []string
		arrays []lang.Array
		want   error
	}{
		{nil, nil, nil},
		{[]string{"x", "x"}, nil, api.ErrName},
		{[]string{"X"}, nil, api.ErrShape},
		{nil, []lang.Array{{Name: "a", Size: -1}}, api.ErrShape},
		{nil, []lang.Array{{Name: "a", Size: 17}}, api.ErrBound},
		{make([]string, 1000), nil, api.ErrShape},
	} {
		if _, err := NewMemory(c.vars, c.arrays); err != c.want {
			t.Error(c, err)
		}
	}
}

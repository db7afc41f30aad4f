package compile

import (
	"fmt"
	"math"
	"math/big"
	"math/rand"
	"slices"
	"strconv"
	"strings"
	"testing"

	"raycone/api"
	"raycone/machine"
)

// ops by a text of theirs: `push 3, store 0, halt`.
func ops(s string) []Op {
	var l []Op
	for part := range strings.SplitSeq(s, ",") {
		name, n, _ := strings.Cut(strings.TrimSpace(part), " ")
		o := Op{Name: name}
		if n != "" {
			o.N, _ = strconv.Atoi(n)
		}
		if name != "" {
			l = append(l, o)
		}
	}
	return l
}

// coded: code of ops, with two variables, and arrays of 3 and 1 places.
func coded(s string) Code { return Code{Vars: 2, Arrays: []int{3, 1}, Ops: ops(s)} }

// end of a run, or its error, as one text.
func end(c Code, input []int, fuel int) string {
	e, err := Run(c, input, fuel)
	if err != nil {
		if fmt.Sprint(e) != fmt.Sprint(machine.End{}) {
			return "more than an error"
		}
		return strings.TrimPrefix(err.Error(), "raycone: ")
	}
	return fmt.Sprint(e)
}

// ends of ops, with the input 5 and 6 and fuel for 50 ops.
func ends(t *testing.T, l map[string]string) {
	t.Helper()
	for s, want := range l {
		if got := end(coded(s), []int{5, 6}, 50); got != want {
			t.Errorf("%s: %s, want %s", s, got, want)
		}
	}
}

// P200, P202: what each op does; an op that ends a run is one that was done.
func TestOps(t *testing.T) {
	ends(t, map[string]string{
		"":                                       "{done 0 [0 0] [[0 0 0] [0]]}",
		"halt":                                   "{done 1 [0 0] [[0 0 0] [0]]}",
		"push 7, store 1, halt, push 8, store 0": "{done 3 [0 7] [[0 0 0] [0]]}",
		"push 7, store 0, load 0, store 1":       "{done 4 [7 7] [[0 0 0] [0]]}",
		"push 2, push 9, put 0, push 0, push 8, put 1":                 "{done 6 [0 0] [[0 0 9] [8]]}",
		"push 2, push 9, put 0, push 2, get 0, store 0":                "{done 6 [9 0] [[0 0 9] [0]]}",
		"push 0, push 4, put 1, push 0, get 1, store 1":                "{done 6 [0 4] [[0 0 0] [4]]}",
		"push 7, neg, store 0, push -3, neg, store 1":                  "{done 6 [-7 3] [[0 0 0] [0]]}",
		"push 7, push 2, add, store 0, push 7, push 2, sub, store 1":   "{done 8 [9 5] [[0 0 0] [0]]}",
		"push 7, push -2, mul, store 0":                                "{done 4 [-14 0] [[0 0 0] [0]]}",
		"push -7, push 2, div, store 0, push -7, push 2, rem, store 1": "{done 8 [-3 -1] [[0 0 0] [0]]}",
		"push 7, push -2, div, store 0, push 7, push -2, rem, store 1": "{done 8 [-3 1] [[0 0 0] [0]]}",
		"read, store 1, read, store 0":                                 "{done 4 [6 5] [[0 0 0] [0]]}",
		"read, read, push 3, store 0, read, store 1":                   "{wrong 5 [3 0] [[0 0 0] [0]]}",
		"jump 3, push 1, store 0, push 2, store 1":                     "{done 3 [0 2] [[0 0 0] [0]]}",
		"push 0, unless 4, push 1, store 0, push 2, store 1":           "{done 4 [0 2] [[0 0 0] [0]]}",
		"push 3, unless 4, push 1, store 0, push 2, store 1":           "{done 6 [1 2] [[0 0 0] [0]]}",
		"push -1, unless 4, push 1, store 0, push 2, store 1":          "{done 6 [1 2] [[0 0 0] [0]]}",
		"jump 1":           "{done 1 [0 0] [[0 0 0] [0]]}",
		"push 0, unless 2": "{done 2 [0 0] [[0 0 0] [0]]}",
		"push 1, push 2, lt, store 0, push 2, push 2, lt, store 1": "{done 8 [1 0] [[0 0 0] [0]]}",
		"push 2, push 2, le, store 0, push 3, push 2, le, store 1": "{done 8 [1 0] [[0 0 0] [0]]}",
		"push 2, push 2, eq, store 0, push 3, push 2, eq, store 1": "{done 8 [1 0] [[0 0 0] [0]]}",
		"push 1, push 2, ne, store 0, push 2, push 2, ne, store 1": "{done 8 [1 0] [[0 0 0] [0]]}",
		"push 3, push 2, lt, store 0, push 1, push 2, le, store 1": "{done 8 [0 1] [[0 0 0] [0]]}",
		"push 1, assert, push -1, assert, push 3, store 0":         "{done 6 [3 0] [[0 0 0] [0]]}",
		"push 1, assume, push -1, assume, push 3, store 0":         "{done 6 [3 0] [[0 0 0] [0]]}",
		"push 4, store 0, push 0, assert, push 3, store 0":         "{failed 4 [4 0] [[0 0 0] [0]]}",
		"push 4, store 0, push 0, assume, push 3, store 0":         "{stuck 4 [4 0] [[0 0 0] [0]]}",
		"push 4, nonzero, store 0, push -1, nonzero, store 1":      "{done 6 [4 -1] [[0 0 0] [0]]}",
		"push 4, store 0, push 0, nonzero, store 0":                "{wrong 4 [4 0] [[0 0 0] [0]]}",
		"push 0, within 1, store 0, push 2, within 3, store 1":     "{done 6 [0 2] [[0 0 0] [0]]}",
		"push 3, within 3, store 0":                                "{wrong 2 [0 0] [[0 0 0] [0]]}",
		"push -1, within 3, store 0":                               "{wrong 2 [0 0] [[0 0 0] [0]]}",
		"push 0, within 0, store 0":                                "{wrong 2 [0 0] [[0 0 0] [0]]}",
		"push 0, within -4, store 0":                               "{wrong 2 [0 0] [[0 0 0] [0]]}",
		"push 99, within 100, store 0":                             "{done 3 [99 0] [[0 0 0] [0]]}",
		"push 1099511627776, small, store 0":                       "{done 3 [1099511627776 0] [[0 0 0] [0]]}",
		"push -1099511627776, small, store 0":                      "{done 3 [-1099511627776 0] [[0 0 0] [0]]}",
		"push 1099511627777, small, store 0":                       "{wrong 2 [0 0] [[0 0 0] [0]]}",
		"push -1099511627777, small, store 0":                      "{wrong 2 [0 0] [[0 0 0] [0]]}",
		"push 1, halt 9, halt":                                     "{done 2 [0 0] [[0 0 0] [0]]}",
		"jump 0":                                                   "{tired 50 [0 0] [[0 0 0] [0]]}",
	})
}

// P200, P202: numbers are at most 2^62 in size: a product rests there, all else tells ErrProof.
func TestGreatNumbers(t *testing.T) {
	const most = "4611686018427387904"
	done := func(n string) string { return "{done 4 [" + n + " 0] [[0 0 0] [0]]}" }
	ends(t, map[string]string{
		"push " + most + ", push 1, mul, store 0":              done(most),
		"push " + most + ", push 2, mul, store 0":              done(most),
		"push " + most + ", push -2, mul, store 0":             done("-" + most),
		"push -" + most + ", push 3, mul, store 0":             done("-" + most),
		"push -" + most + ", push -" + most + ", mul, store 0": done(most),
		"push 2147483648, push 2147483648, mul, store 0":       done(most),
		"push 2147483648, push -2147483648, mul, store 0":      done("-" + most),
		"push 2147483648, push 2147483647, mul, store 0":       done("4611686016279904256"),
		"push 2147483648, push 2147483649, mul, store 0":       done(most),
		"push 0, push -" + most + ", mul, store 0":             done("0"),
		"push -" + most + ", push 0, mul, store 0":             done("0"),
		"push 3, push 1537228672809129301, mul, store 0":       done("4611686018427387903"),
		"push 3, push -1537228672809129301, mul, store 0":      done("-4611686018427387903"),
		"push 3, push 1537228672809129302, mul, store 0":       done(most),
		"push 3037000500, push 3037000500, mul, store 0":       done(most),
		"push -" + most + ", push -1, div, store 0":            done(most),
		"push -" + most + ", push -1, rem, store 0":            done("0"),
		"push " + most + ", push 1, sub, store 0":              done("4611686018427387903"),
		"push -" + most + ", neg, neg, store 0":                done("-" + most),
		"push " + most + ", push 1, add, store 0":              "proof",
		"push " + most + ", push " + most + ", add, store 0":   "proof",
		"push -" + most + ", push -" + most + ", add":          "proof",
		"push -" + most + ", push " + most + ", sub":           "proof",
		"push " + most + ", push -" + most + ", sub":           "proof",
		"push -" + most + ", push 1, sub":                      "proof",
		"push 4611686018427387905":                             "proof",
		"push -4611686018427387905":                            "proof",
		"push 9223372036854775807":                             "proof",
		"push -9223372036854775808":                            "proof",
	})
}

// P202: what goes wrong without a check.
func TestUnchecked(t *testing.T) {
	ends(t, map[string]string{
		"push 1, push 0, div":                    "proof",
		"push 1, push 0, rem":                    "proof",
		"push 3, get 0":                          "proof",
		"push -1, get 0":                         "proof",
		"push 1, get 1":                          "proof",
		"push 3, push 1, put 0":                  "proof",
		"push -1, push 1, put 0":                 "proof",
		"push 1, push 0, nonzero, div":           "{wrong 3 [0 0] [[0 0 0] [0]]}",
		"push 3, within 3, get 0":                "{wrong 2 [0 0] [[0 0 0] [0]]}",
		"push 3, within 3, push 1, put 0":        "{wrong 2 [0 0] [[0 0 0] [0]]}",
		"push 7, halt, push 1, push 0, div":      "{done 2 [0 0] [[0 0 0] [0]]}",
		"push 1, unless 4, halt, jump 0, get 99": "{done 3 [0 0] [[0 0 0] [0]]}",
	})
}

// P202: what has no shape is found as it comes, ahead of anything that its op does.
func TestShapeAsItComes(t *testing.T) {
	many := strings.Repeat
	ends(t, map[string]string{
		"pop":                       "shape",
		"Push 1":                    "shape",
		"push 1, halt, x":           "{done 2 [0 0] [[0 0 0] [0]]}",
		"jump 2, x":                 "{done 1 [0 0] [[0 0 0] [0]]}",
		"jump 2":                    "shape",
		"jump -1":                   "shape",
		"jump 9223372036854775807":  "shape",
		"push 1, unless 3":          "shape",
		"push 0, unless 3":          "shape",
		"push 1, unless -1":         "shape",
		"load 2":                    "shape",
		"load -1":                   "shape",
		"push 1, store 2":           "shape",
		"push 1, store -1":          "shape",
		"push 0, get 2":             "shape",
		"push 9, get -1":            "shape",
		"push 9, push 1, put 2":     "shape",
		"push 9, push 1, put -1":    "shape",
		"store 0":                   "shape",
		"get 0":                     "shape",
		"push 0, put 0":             "shape",
		"neg":                       "shape",
		"push 1, add":               "shape",
		"push 1, sub":               "shape",
		"push 1, mul":               "shape",
		"push 0, div":               "shape",
		"push 0, rem":               "shape",
		"push 1, lt":                "shape",
		"push 1, le":                "shape",
		"push 1, eq":                "shape",
		"push 1, ne":                "shape",
		"unless 0":                  "shape",
		"assert":                    "shape",
		"assume":                    "shape",
		"nonzero":                   "shape",
		"within 1":                  "shape",
		"small":                     "shape",
		"push 1, assert, assert":    "shape",
		"push 1, assume, assume":    "shape",
		"push 1, unless 2, store 0": "shape",
		"push 1, store 0, store 0":  "shape",
		"push 1, nonzero, within 2, small, store 0": "{done 5 [1 0] [[0 0 0] [0]]}",
	})
	for s, want := range map[string]string{
		many("push 1,", 100):                                        "{done 100 [0 0] [[0 0 0] [0]]}",
		many("push 1,", 101):                                        "shape",
		many("push 1,", 100) + "load 0":                             "shape",
		many("push 1,", 100) + "read":                               "shape",
		many("push 1,", 100) + "push 4611686018427387905":           "shape",
		many("push 0,", 100) + "get 0, neg, small, store 0, load 0": "{done 105 [0 0] [[0 0 0] [0]]}",
		many("push 1,", 100) + many("add,", 99) + "store 0":         "{done 200 [100 0] [[0 0 0] [0]]}",
	} {
		if got := end(coded(s), nil, 300); got != want {
			t.Errorf("%.30s: %s, want %s", s, got, want)
		}
	}
	// Who is tired does not come to it.
	if got := end(coded("push 1, pop"), nil, 1); got != "{tired 1 [0 0] [[0 0 0] [0]]}" {
		t.Error(got)
	}
}

// P202: fuel is for ops: with as many as are done a run is as with more, with less it is tired.
func TestFuel(t *testing.T) {
	for s, want := range map[string]string{
		"push 1, store 0":         "{done 2 [1 0] [[0 0 0] [0]]}",
		"push 1, store 0, halt":   "{done 3 [1 0] [[0 0 0] [0]]}",
		"push 1, store 0, jump 3": "{done 3 [1 0] [[0 0 0] [0]]}",
		"push 0, assert":          "{failed 2 [0 0] [[0 0 0] [0]]}",
		"push 0, assume, halt":    "{stuck 2 [0 0] [[0 0 0] [0]]}",
		"push 0, nonzero, halt":   "{wrong 2 [0 0] [[0 0 0] [0]]}",
		"read":                    "{wrong 1 [0 0] [[0 0 0] [0]]}",
		"":                        "{done 0 [0 0] [[0 0 0] [0]]}",
	} {
		e, _ := Run(coded(s), nil, 2000000)
		if got := fmt.Sprint(e); got != want {
			t.Errorf("%s: %s", s, got)
		}
		for fuel := range 5 {
			want := want
			if fuel < e.Steps {
				want = fmt.Sprint(machine.End{Kind: "tired", Steps: fuel, Vars: []int{min(e.Vars[0], fuel/2), 0}, Arrays: e.Arrays})
			}
			if got := end(coded(s), nil, fuel); got != want {
				t.Errorf("%s %d: %s, want %s", s, fuel, got, want)
			}
		}
	}
	if got := end(coded("jump 0"), nil, 100*api.MaxFuel); got != "{tired 2000000 [0 0] [[0 0 0] [0]]}" {
		t.Error(got)
	}
}

// P202: ErrBound, then ErrShape of the code, then what comes.
func TestRunErrors(t *testing.T) {
	input := make([]int, api.MaxInput)
	good, bad := coded("push 1"), Code{Vars: -1}
	for i, c := range []struct {
		c     Code
		input []int
		fuel  int
		want  string
	}{
		{good, input, 2000000, "{done 1 [0 0] [[0 0 0] [0]]}"},
		{good, []int{api.MaxValue, -api.MaxValue}, 1, "{done 1 [0 0] [[0 0 0] [0]]}"},
		{good, nil, 0, "{tired 0 [0 0] [[0 0 0] [0]]}"},
		{good, append(input, 0), 1, "bound"},
		{good, []int{0, api.MaxValue + 1}, 1, "bound"},
		{good, []int{-api.MaxValue - 1}, 1, "bound"},
		{good, []int{math.MinInt}, 1, "bound"},
		{good, nil, -1, "bound"},
		{good, nil, 2000001, "bound"},
		{good, nil, math.MaxInt, "bound"},
		{bad, nil, -1, "bound"},
		{bad, []int{math.MaxInt}, 1, "bound"},
		{bad, nil, 0, "shape"},
		{Code{Vars: 101}, nil, 0, "shape"},
		{Code{Vars: math.MaxInt}, nil, 0, "shape"},
		{Code{Arrays: make([]int, 101)}, nil, 0, "shape"},
		{Code{Arrays: []int{16, 17}}, nil, 0, "shape"},
		{Code{Arrays: []int{0, -1}}, nil, 0, "shape"},
		{Code{Ops: make([]Op, 4001)}, nil, 0, "shape"},
		{Code{Ops: make([]Op, 4000)}, nil, 0, "{tired 0 [] []}"},
		{Code{Ops: make([]Op, 4000)}, nil, 1, "shape"},
		{Code{Arrays: []int{0, 16, 1}}, nil, 0, "{done 0 [] [[] [0 0 0 0 0 0 0 0 0 0 0 0 0 0 0 0] [0]]}"},
		{Code{Arrays: []int{0}, Ops: ops("push 0, get 0")}, nil, 9, "proof"},
		{Code{}, nil, 0, "{done 0 [] []}"},
	} {
		if got := end(c.c, c.input, c.fuel); got != c.want {
			t.Errorf("%d: %s, want %s", i, got, c.want)
		}
	}
	e, err := Run(Code{Vars: 100, Arrays: slices.Repeat([]int{2}, 100), Ops: ops("push 4, store 99, push 1, push 5, put 99")}, nil, 5)
	if err != nil || e.Kind != "done" || len(e.Vars) != 100 || e.Vars[99] != 4 || len(e.Arrays) != 100 || e.Arrays[99][1] != 5 {
		t.Error(e, err)
	}
}

// another machine for code, of numbers of any size: it goes by the words of P200 and P202.
type another struct {
	c      Code
	vars   []*big.Int
	arrays [][]*big.Int
	stack  []*big.Int
	input  []int
	at     int
}

// needs of an op: how many numbers there must be, and how many more there are behind it.
func needs(name string) (lacks, more int, known bool) {
	switch name {
	case "push", "load", "read":
		return 0, 1, true
	case "store", "unless", "assert", "assume":
		return 1, -1, true
	case "add", "sub", "mul", "div", "rem", "lt", "le", "eq", "ne":
		return 2, -1, true
	case "put":
		return 2, -2, true
	case "get", "neg", "nonzero", "within", "small":
		return 1, 0, true
	case "jump", "halt":
		return 0, 0, true
	}
	return 0, 0, false
}

func (m *another) hasShape(o Op) bool {
	lacks, more, known := needs(o.Name)
	if !known || len(m.stack) < lacks || len(m.stack)+more > 100 {
		return false
	}
	switch o.Name {
	case "jump", "unless":
		return 0 <= o.N && o.N <= len(m.c.Ops)
	case "load", "store":
		return 0 <= o.N && o.N < m.c.Vars
	case "get", "put":
		return 0 <= o.N && o.N < len(m.c.Arrays)
	}
	return true
}

func (m *another) take() *big.Int {
	n := m.stack[len(m.stack)-1]
	m.stack = m.stack[:len(m.stack)-1]
	return n
}

// give a number: "proof" if it is above 2^62.
func (m *another) give(n *big.Int) string {
	if n.CmpAbs(new(big.Int).Lsh(big.NewInt(1), 62)) > 0 {
		return "proof"
	}
	m.stack = append(m.stack, n)
	return ""
}

// two numbers, joined.
func (m *another) two(name string) string {
	b, a := m.take(), m.take()
	n := new(big.Int)
	switch name {
	case "add":
		n.Add(a, b)
	case "sub":
		n.Sub(a, b)
	case "mul":
		n.Mul(a, b)
		if most := new(big.Int).Lsh(big.NewInt(1), 62); n.CmpAbs(most) > 0 {
			n.Mul(most, big.NewInt(int64(n.Sign())))
		}
	case "div", "rem":
		if b.Sign() == 0 {
			return "proof"
		}
		q, r := new(big.Int).QuoRem(a, b, new(big.Int))
		n = map[string]*big.Int{"div": q, "rem": r}[name]
	default:
		is := map[string][]int{"lt": {-1}, "le": {-1, 0}, "eq": {0}, "ne": {-1, 1}}[name]
		if slices.Contains(is, a.Cmp(b)) {
			n.SetInt64(1)
		}
	}
	return m.give(n)
}

// do an op: what ends the run, if anything does.
func (m *another) do(o Op) string {
	lacks, _, _ := needs(o.Name)
	switch o.Name {
	case "push":
		return m.give(big.NewInt(int64(o.N)))
	case "load":
		return m.give(m.vars[o.N])
	case "store":
		m.vars[o.N] = m.take()
	case "neg":
		return m.give(new(big.Int).Neg(m.take()))
	case "read":
		if len(m.input) == 0 {
			return "wrong"
		}
		n := m.input[0]
		m.input = m.input[1:]
		return m.give(big.NewInt(int64(n)))
	case "jump":
		m.at = o.N
	case "halt":
		return "done"
	case "get", "put":
		var n *big.Int
		if o.Name == "put" {
			n = m.take()
		}
		at, l := m.take(), m.arrays[o.N]
		if at.Sign() < 0 || at.Cmp(big.NewInt(int64(len(l)))) >= 0 {
			return "proof"
		}
		if o.Name == "get" {
			return m.give(l[at.Int64()])
		}
		l[at.Int64()] = n
	case "unless", "assert", "assume":
		if m.take().Sign() == 0 {
			if o.Name == "unless" {
				m.at = o.N
			}
			return map[string]string{"assert": "failed", "assume": "stuck"}[o.Name]
		}
	case "nonzero", "within", "small":
		top := m.stack[len(m.stack)-1]
		fine := map[string]bool{"nonzero": top.Sign() != 0, "small": top.CmpAbs(big.NewInt(1<<40)) <= 0, "within": top.Sign() >= 0 && top.Cmp(big.NewInt(int64(o.N))) < 0}
		if !fine[o.Name] {
			return "wrong"
		}
	default:
		if lacks != 2 {
			panic(o.Name)
		}
		return m.two(o.Name)
	}
	return ""
}

// anotherEnd of code, as end tells it.
func anotherEnd(c Code, input []int, fuel int) string {
	m := &another{c: c, input: input}
	for range c.Vars {
		m.vars = append(m.vars, new(big.Int))
	}
	for _, n := range c.Arrays {
		m.arrays = append(m.arrays, slices.Repeat([]*big.Int{new(big.Int)}, n))
	}
	kind, steps := "", 0
	for kind == "" {
		if m.at == len(c.Ops) {
			kind = "done"
			break
		}
		if steps == fuel {
			kind = "tired"
			break
		}
		o := c.Ops[m.at]
		if !m.hasShape(o) {
			return "shape"
		}
		m.at++
		steps++
		kind = m.do(o)
	}
	if kind == "proof" {
		return kind
	}
	return fmt.Sprintf("{%s %d %v %v}", kind, steps, m.vars, m.arrays)
}

// P200, P202: code at random, most of which has a shape, against the other machine.
func TestRunRandom(t *testing.T) {
	r := rand.New(rand.NewSource(202))
	names := strings.Fields("push push push push load load store get get put put neg add sub mul mul div rem read jump unless lt le eq ne assert assume halt nonzero within small")
	seen := map[string]int{}
	for range 60000 {
		c := coded("")
		high := 0 // about as many numbers as are on the stack
		for range 1 + r.Intn(40) {
			name := names[r.Intn(len(names))]
			lacks, more, _ := needs(name)
			for high < lacks && r.Intn(30) > 0 {
				c.Ops, high = append(c.Ops, Op{"push", r.Intn(5) - 1}), high+1
			}
			o := Op{Name: name, N: r.Intn(4)}
			switch name {
			case "push":
				o.N = []int{r.Intn(4), r.Intn(9) - 4, 1 << 40, 1 << 62, -1 << 62, 1 << 31, 1<<40 + 1, -1 << 40}[r.Intn(8)]
			case "load", "store", "get", "put":
				o.N = r.Intn(2)
			case "jump", "unless":
				o.N = len(c.Ops) + r.Intn(6) - 2
			}
			if r.Intn(200) == 0 {
				o.N = r.Intn(9) - 4
			}
			c.Ops, high = append(c.Ops, o), high+more
		}
		input := []int{5, 1 << 40, -1}[:r.Intn(4)]
		fuel := []int{100, r.Intn(40)}[r.Intn(2)]
		got, want := end(c, input, fuel), anotherEnd(c, input, fuel)
		if got != want {
			t.Fatalf("%v %v %d: %s, want %s", c, input, fuel, got, want)
		}
		seen[strings.Fields(strings.Trim(got, "{}"))[0]]++
	}
	for _, kind := range []string{"done", "stuck", "failed", "wrong", "tired", "shape", "proof"} {
		if seen[kind] < 1000 {
			t.Error(seen)
		}
	}
}

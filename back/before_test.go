package back

import (
	"math/big"
	"slices"
	"strconv"
	"testing"

	"raycone/api"
	"raycone/flow"
	"raycone/hull"
	"raycone/lang"
	"raycone/ops"
	"raycone/poly"
)

// P180: what acts are made of, and what they make, by hand: x is x0, y is x1.
func TestBeforeByHand(t *testing.T) {
	const some = "x0 >= 0, -x0 >= -3, x0 - x1 = 1"
	for _, c := range []struct{ to, act, want string }{
		{some, "while true{}", some},
		{some, "z=x+y;", some},
		{some, "z=x*y;", some},
		{some, "a[1]=x;", some},
		{some, "read z;", some},
		{some, "read x;", "x1 >= -1, -x1 >= -2"},
		{some, "read y;", "x0 >= 0, -x0 >= -3"},
		{some, "x=x*y;", "x1 >= -1, -x1 >= -2"},
		{some, "y=z;", "x0 >= 0, -x0 >= -3"},
		{some, "y=a[0];", "x0 >= 0, -x0 >= -3"},
		{some, "x=7/2;", "x1 >= -1, -x1 >= -2"},
		{some, "x=2;", "x1 = 1"},
		{some, "x=4;", "none"},
		{some, "x=-1;", "none"},
		{some, "x=x;", some},
		{some, "x=y;", "none"},
		{some, "x=y+1;", "x1 >= -1, -x1 >= -2"},
		{some, "y=x-1;", "x0 >= 0, -x0 >= -3"},
		{some, "y=x;", "none"},
		{some, "x=x+1;", "x0 >= -1, -x0 >= -2, x0 - x1 = 0"},
		{some, "x=-x;", "-x0 >= 0, x0 >= -3, x0 + x1 = -1"},
		{some, "x=3*x-5;", "3 x0 >= 5, -3 x0 >= -8, 3 x0 - x1 = 6"},
		{some, "x=2*(x-y)+x-3*x;", "-2 x1 >= 0, 2 x1 >= -3, 3 x1 = -1"},
		{some, "x=0*x+y+1;", "x1 >= -1, -x1 >= -2"},
		{"2 x0 = 1", "x=3*y;", "6 x1 = 1"},
		{"2 x0 = 1", "x=0;", "none"},
		{"x0 = 7", "x=x+3;", "x0 = 4"},
		{"", "x=x+3;", ""},
		{"none", "x=x+3;", "none"},
		{"none", "read x;", "none"},
		{"none", "x=x*x;", "none"},
		{"none", "while true{}", "none"},
		{some, "assume x>1;", "x0 >= 2, -x0 >= -3, x0 - x1 = 1"},
		{some, "assume x>=2;", "x0 >= 2, -x0 >= -3, x0 - x1 = 1"},
		{some, "assume x<2;", "x0 >= 0, -x0 >= -1, x0 - x1 = 1"},
		{some, "assume 2*x<3;", "x0 >= 0, -x0 >= -1, x0 - x1 = 1"},
		{some, "assume 3*x<=4;", "x0 >= 0, -3 x0 >= -4, x0 - x1 = 1"},
		{some, "assume x==y+1;", some},
		{some, "assume x==y;", "none"},
		{some, "assume y==2;", "x0 = 3, x1 = 2"},
		{some, "assume x!=2;", some},
		{some, "assume x!=x;", some},
		{some, "assume x<z;", some},
		{some, "assume x*y>7;", some},
		{some, "assume x<2 and z<0 and y>=0;", "x0 = 1, x1 = 0"},
		{some, "assume x>7;", "none"},
		{some, "assume true;", some},
	} {
		got, err := Before(names(), chosen("xy"), read(2, c.to), actOf(t, c.act))
		if !same(got, formed(2, c.want)) || err != nil {
			t.Errorf("%s: %s: %s %v, want %s", c.to, c.act, said(t, got), err, c.want)
		}
	}
	fail := flow.Act{Kind: "fail", Tests: actOf(t, "assume x>1 and y<2;").Tests}
	if got, err := Before(names(), chosen("xy"), read(2, some), fail); !same(got, formed(2, "x0 = 2, x1 = 1")) || err != nil {
		t.Error(said(t, got), err)
	}
	// Other variables, and no variables at all.
	if got, err := Before(names(), chosen("yz"), read(2, "x0 - x1 = 2"), actOf(t, "z=z-y;")); !same(got, read(2, "2 x0 - x1 = 2")) || err != nil {
		t.Error(said(t, got), err)
	}
	if got, err := Before(names(), nil, api.Poly{}, actOf(t, "x=1;")); !same(got, api.Poly{}) || err != nil {
		t.Error(said(t, got), err)
	}
}

// sumOf a linear term of the chosen.
func sumOf(t *testing.T, c hull.Choice, e lang.Expr) ([]int, bool) {
	t.Helper()
	l, ok, err := hull.Linear(names(), c, e)
	if err != nil {
		t.Fatal(e, err)
	}
	return l, ok
}

// rowOf a test between sums, by its words: "<" is "<=" of one less; false: nothing is known by it.
func rowOf(t *testing.T, c hull.Choice, test lang.Test) (api.Row, bool) {
	t.Helper()
	a, isSum := sumOf(t, c, test.A)
	b, areSums := sumOf(t, c, test.B)
	if !isSum || !areSums || test.Rel == "!=" {
		return api.Row{}, false
	}
	r, sign := api.Row{Eq: test.Rel == "==", A: make([]int, len(c))}, 1
	if test.Rel[0] == '<' {
		sign = -1
	}
	for i := range r.A {
		r.A[i] = sign * (a[i] - b[i])
	}
	r.B = -sign * (a[len(c)] - b[len(c)])
	if test.Rel == "<" || test.Rel == ">" {
		r.B++
	}
	return r, true
}

// byOps: what an act is made of, by what is done with polyhedra.
func byOps(t *testing.T, c hull.Choice, p api.Poly, a flow.Act) (api.Poly, error) {
	t.Helper()
	x := slices.Index(c, slices.Index(names().Vars, a.Name))
	switch a.Kind {
	case "test", "fail":
		more := api.Poly{Dim: p.Dim}
		for _, test := range a.Tests {
			if r, ok := rowOf(t, c, test); ok {
				more.Rows = append(more.Rows, r)
			}
		}
		return ops.Meet(p, more)
	case "set", "read":
		if x < 0 {
			break
		}
		if a.Kind == "set" {
			if sum, ok := sumOf(t, c, a.Args[0]); ok {
				m := make(ops.Map, p.Dim)
				for i := range m {
					m[i] = make([]int, p.Dim+1)
					m[i][i] = 1
				}
				m[x] = sum
				return ops.Before(p, p.Dim, m)
			}
		}
		return ops.Forget(p, x)
	}
	return poly.Form(p)
}

// P180: exact, by what polyhedra do.
func TestBeforeExact(t *testing.T) {
	m := makerOf(180)
	kinds, nones := map[string]int{}, 0
	for range 6000 {
		c := chosen(m.of(5))
		p, a := m.state(len(c)), m.act(t)
		got, err := Before(names(), c, p, a)
		want, wrong := byOps(t, c, p, a)
		if !same(got, want) || err != nil || wrong != nil {
			t.Fatal(c, said(t, p), a, said(t, got), err, "want", said(t, want), wrong)
		}
		kinds[a.Kind]++
		if none, _ := poly.Empty(got); none {
			nones++
		}
	}
	for _, kind := range []string{"skip", "read", "set", "put", "test", "fail"} {
		if kinds[kind] < 300 || nones < 80 {
			t.Error(kinds, nones)
		}
	}
}

// fraction of two whole numbers.
func fraction(a, b int) *big.Rat { return big.NewRat(int64(a), int64(b)) }

// madeOf: can the act make a point of p of x, by the words of the document?
func madeOf(t *testing.T, c hull.Choice, p api.Poly, a flow.Act, x api.Point) bool {
	t.Helper()
	holds := func(x api.Point) bool {
		in, err := poly.Has(p, x)
		if err != nil {
			t.Fatal(err)
		}
		return in
	}
	n := slices.Index(c, slices.Index(names().Vars, a.Name))
	switch {
	case a.Kind == "test" || a.Kind == "fail":
		for _, test := range a.Tests {
			if r, ok := rowOf(t, c, test); ok {
				in, err := poly.Has(api.Poly{Dim: p.Dim, Rows: []api.Row{r}}, x)
				if err != nil {
					t.Fatal(err)
				}
				if !in {
					return false
				}
			}
		}
		return holds(x)
	case a.Kind != "set" && a.Kind != "read" || n < 0:
		return holds(x)
	case a.Kind == "set":
		if sum, ok := sumOf(t, c, a.Args[0]); ok {
			value := sum[len(c)] * x.Den
			for i, k := range x.X {
				value += sum[i] * k
			}
			set := slices.Clone(x.X)
			set[n] = value
			return holds(api.Point{X: set, Den: x.Den})
		}
	}
	return someOf(p, n, x)
}

// someOf the numbers is one that the variable n can be, with all others as they are.
func someOf(p api.Poly, n int, x api.Point) bool {
	var low, high *big.Rat
	for _, r := range p.Rows {
		rest := fraction(r.B, 1)
		for i, k := range x.X {
			if i != n {
				rest.Sub(rest, fraction(r.A[i]*k, x.Den))
			}
		}
		for _, sign := range []int{1, -1} {
			times := sign * r.A[n]
			if sign < 0 && !r.Eq {
				break
			}
			bound := new(big.Rat).Mul(rest, fraction(sign, 1))
			switch {
			case times == 0:
				if bound.Sign() > 0 {
					return false
				}
			case times > 0:
				if bound.Quo(bound, fraction(times, 1)); low == nil || low.Cmp(bound) < 0 {
					low = bound
				}
			case times < 0:
				if bound.Quo(bound, fraction(times, 1)); high == nil || high.Cmp(bound) > 0 {
					high = bound
				}
			}
		}
	}
	return low == nil || high == nil || low.Cmp(high) <= 0
}

// P180: exact, point by point, fractions too.
func TestBeforePoints(t *testing.T) {
	m := makerOf(1801)
	ins, outs := map[string]int{}, map[string]int{}
	for range 5000 {
		c := chosen(m.of(4))
		p, a := m.state(len(c)), m.act(t)
		got, err := Before(names(), c, p, a)
		if err != nil {
			t.Fatal(err)
		}
		for range 5 {
			x := api.Point{X: make([]int, len(c)), Den: 1 + m.Intn(2)}
			for i := range x.X {
				x.X[i] = m.Intn(9) - 4
			}
			in, err := poly.Has(got, x)
			if err != nil || in != madeOf(t, c, p, a, x) {
				t.Fatal(c, said(t, p), a, said(t, got), x, in, err)
			}
			if in {
				ins[a.Kind]++
			} else {
				outs[a.Kind]++
			}
		}
	}
	for _, kind := range []string{"skip", "read", "set", "put", "test", "fail"} {
		if ins[kind] < 200 || outs[kind] < 200 {
			t.Error(ins, outs)
		}
	}
}

// P180: of whatever an act makes one of p, it is told, whatever the other variables and arrays are.
func TestBeforeAlways(t *testing.T) {
	m := makerOf(1802)
	rights := map[string]int{}
	for range 6000 {
		c, a, v := chosen(m.of(5)), m.act(t), m.values()
		g := names()
		g.Edges = []flow.Edge{{Act: a}}
		next, err := flow.Steps(g, 0, v.vars, v.arrays, v.input)
		if err != nil {
			t.Fatal(err)
		}
		for _, n := range next {
			p := m.around(len(c), [][]int{picked(c, n.Vars), picked(c, m.values().vars)})
			got, err := Before(names(), c, p, a)
			if err != nil || !has(t, got, picked(c, v.vars)) {
				t.Fatal(c, said(t, p), a, v, n, said(t, got), err)
			}
			rights[a.Kind]++
		}
	}
	for _, kind := range []string{"skip", "read", "set", "put", "test", "fail"} {
		if rights[kind] < 200 {
			t.Error(rights)
		}
	}
}

// funnels: x is from below and from above bounded by twelve sums each, of two variables each.
func funnels(times int) api.Poly {
	p := api.Poly{Dim: 5}
	for _, c := range [][]int{{5, 0}, {4, 3}, {3, 4}, {0, 5}, {-3, 4}, {-4, 3}, {-5, 0}, {-4, -3}, {-3, -4}, {0, -5}, {3, -4}, {4, -3}} {
		p.Rows = append(p.Rows, api.Row{A: []int{times, -c[0], -c[1], 0, 0}, B: -100}, api.Row{A: []int{1 - times, 0, 0, -c[0], -c[1]}, B: -100})
	}
	return p
}

// P180: as many rows as come are told, where their numbers can be.
func TestBeforeManyRows(t *testing.T) {
	c := chosen("xyzwv")
	for times, want := range map[int]int{2: 144, 500: 144, 1 << 30: 144} {
		for _, act := range []string{"read x;", "x=x*y;", "x=a[0];"} {
			got, err := Before(names(), c, funnels(times), actOf(t, act))
			if len(got.Rows) != want || err != nil {
				t.Error(times, act, len(got.Rows), err)
			}
		}
		got, err := Before(names(), c, funnels(times), actOf(t, "x=x+1;"))
		if len(got.Rows) != 24 || err != nil {
			t.Error(times, len(got.Rows), err)
		}
	}
	test := flow.Act{Kind: "test"}
	for n := -30; n <= 30; n++ {
		test.Tests = append(test.Tests, actOf(t, "assume y>="+strconv.Itoa(2*n)+"*x-"+strconv.Itoa(n*n)+";").Tests...)
	}
	got, err := Before(names(), chosen("xy"), api.Poly{Dim: 2}, test)
	if len(got.Rows) != 61 || err != nil {
		t.Error(len(got.Rows), err)
	}
}

// P180: what has a too great number is not told. By a number on the way that is too great a term is none of P162: what is set to it can be anything.
func TestBeforeTooGreat(t *testing.T) {
	const great = 1 << 31
	row := func(b int, a ...int) []api.Row { return []api.Row{{Eq: true, A: a, B: b}} }
	for _, c := range []struct {
		to, act string
		want    []api.Row
		err     error
	}{
		{"x0 = 2147483648", "x=2147483648*x;", row(1, 1, 0), nil},
		{"2147483648 x0 = 1", "x=2147483648*x;", row(1, great*great, 0), nil},
		{"2147483648 x0 = 1", "x=2147483648*y+x;", row(1, great, great*great), nil},
		{"2147483648 x0 + x1 = 1", "x=2147483648*y-1;", nil, api.ErrBound},
		{"2147483648 x0 + x1 = 1", "x=2147483647*y-1;", row((great+1)/3, 0, (great*(great-1)+1)/3), nil},
		{"2147483648 x0 + x1 = 1", "x=2147483649*y-1;", nil, nil},
		{"2147483648 x0 + x1 = 1", "x=2147483648*y+x;", nil, api.ErrBound},
		{"2147483648 x0 + 2147483647 x1 = 1", "assume 2147483647*x+2147483646*y==1;", append(row(1, 1, 0), row(-1, 0, 1)...), nil},
		{"2147483648 x0 + 2147483646 x1 = 1", "assume 2147483647*x==1+2147483647*y;", nil, api.ErrBound},
	} {
		got, err := Before(names(), chosen("xy"), read(2, c.to), actOf(t, c.act))
		if err != c.err || err != nil && !isZero(got) || err == nil && !same(got, api.Poly{Dim: 2, Rows: c.want}) {
			t.Error(c, got, err)
		}
	}
}

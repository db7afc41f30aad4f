package hull

import (
	"math"
	"slices"
	"strconv"
	"strings"
	"testing"

	"raycone/api"
	"raycone/exact"
	"raycone/flow"
	"raycone/lang"
	"raycone/ops"
	"raycone/poly"
)

// step from a state: a statement, and the rows of what comes.
type step struct{ act, want string }

func checkSteps(t *testing.T, of, from string, l []step) {
	t.Helper()
	for _, s := range l {
		got, err := Go(names(), chosen(of), loose(of, from), actOf(t, s.act))
		if want := formed(of, s.want); !same(got, want) || err != nil {
			t.Errorf("%s: %s %v, want %s", s.act, said(of, got), err, said(of, want))
		}
	}
}

// P162: what acts but tests make.
func TestGoSets(t *testing.T) {
	const some = "x >= 0, x <= 3, y = 2x"
	checkSteps(t, "xy", some, []step{
		{"while true{}", some},
		{"read x;", "y >= 0, y <= 6"},
		{"read y;", "x >= 0, x <= 3"},
		{"read z;", some},
		{"x=7;", "x = 7, y >= 0, y <= 6"},
		{"x=y;", "x = y, y >= 0, y <= 6"},
		{"x=x;", some},
		{"x=x+1;", "x >= 1, x <= 4, y = 2x -2"},
		{"x=-x;", "x <= 0, x >= -3, y = -2x"},
		{"x=3*x-5;", "x >= -5, x <= 4, 3y = 2x 10"},
		{"x=x+y;", "3y = 2x, x >= 0, x <= 9"},
		{"y=y-2*x;", "y = 0, x >= 0, x <= 3"},
		{"y=x-x;", "y = 0, x >= 0, x <= 3"},
		{"y=2147483648-1;", "y = 2147483647, x >= 0, x <= 3"},
		{"y=2147483648;", "y = 2147483648, x >= 0, x <= 3"},
		{"z=x;", some},
		{"z=1/0;", some},
		// What is no sum of the chosen is anything, whatever it can come to.
		{"x=z;", "y >= 0, y <= 6"},
		{"x=0*z;", "y >= 0, y <= 6"},
		{"x=x*y;", "y >= 0, y <= 6"},
		{"x=y/2;", "y >= 0, y <= 6"},
		{"x=4/2;", "y >= 0, y <= 6"},
		{"x=1/0;", "y >= 0, y <= 6"},
		{"x=a[0];", "y >= 0, y <= 6"},
		{"x=a[9];", "y >= 0, y <= 6"},
		{"x=2147483649;", "y >= 0, y <= 6"},
		{"a[0]=x;", some},
		{"a[x]=y;", some},
		{"a[9]=1/0;", some},
	})
	checkSteps(t, "xy", "x >= 1, y >= x", []step{
		{"x=y-x;", "x >= 0, y >= x 1"},
		{"x=0;", "x = 0, y >= 1"},
		{"y=x+y;", "x >= 1, y >= 2x"},
		{"y=-x-y;", "x >= 1, y <= -2x"},
		{"read x;", "y >= 1"},
	})
	checkSteps(t, "", "", []step{{"x=1;", ""}, {"read y;", ""}, {"while true{}", ""}, {"assume x<1;", ""}, {"assume 1<2;", ""}, {"assume 2<1;", "none"}})
	checkSteps(t, "v", "", []step{{"v=1;", "v = 1"}, {"x=1;", ""}, {"v=v+1;", ""}, {"v=0*v+2;", "v = 2"}})
}

// P162: tests, whichever side is which.
func TestGoTests(t *testing.T) {
	const some = "x >= 0, x <= 3, y = 2x"
	checkSteps(t, "xy", some, []step{
		{"assume true;", some},
		{"assume x<2;", some + ", x <= 1"},
		{"assume x<=2;", some + ", x <= 2"},
		{"assume x==2;", "x = 2, y = 4"},
		{"assume x>=2;", some + ", x >= 2"},
		{"assume x>2;", "x = 3, y = 6"},
		{"assume 2<x;", "x = 3, y = 6"},
		{"assume 2>=x;", some + ", x <= 2"},
		{"assume x<y;", some + ", x >= 1"},
		{"assume y>x;", some + ", x >= 1"},
		{"assume y<=x;", "x = 0, y = 0"},
		{"assume x+y==9;", "x = 3, y = 6"},
		{"assume x+y==3;", "x = 1, y = 2"},
		{"assume 2*x+3*y<8;", some + ", 8x <= 7"},
		{"assume 2*x+3*y<=8-y;", some + ", 10x <= 8"},
		{"assume x>3;", "none"},
		{"assume x<0;", "none"},
		{"assume y==7;", "none"},
		{"assume x+y<0;", "none"},
		{"assume 1<0;", "none"},
		{"assume 0<0;", "none"},
		{"assume 0<=0;", some},
		{"assume 0<1;", some},
		{"assume 0==0;", some},
		{"assume 0==1;", "none"},
		{"assume x<x;", "none"},
		{"assume y==2*x;", some},
		{"assume x<3 and y>2;", some + ", x <= 2, 2x >= 3"},
		{"assume x<3 and y>4;", "none"},
		{"assert x>=2;", some + ", x <= 1"},
		{"assert x!=2;", "x = 2, y = 4"},
		// By what is no test of sums of the chosen nothing is known.
		{"assume x!=2;", some},
		{"assume x!=x;", some},
		{"assume 1!=1;", some},
		{"assert y==2*x;", some},
		{"assume x<z;", some},
		{"assume z<z;", some},
		{"assume x*x<0;", some},
		{"assume x/2>7;", some},
		{"assume 1/0==1;", some},
		{"assume a[0]==x;", some},
		{"assume x<=2147483649-2147483648;", some},
		{"assume x<z and x<2;", some + ", x <= 1"},
		{"assume x<2 and x!=1;", some + ", x <= 1"},
		{"assume x*x<0 and x>2 and z<0;", "x = 3, y = 6"},
	})
	checkSteps(t, "xy", "", []step{
		{"assume 2*x<1;", "2x <= 0"},
		{"assume 3*x-3*y<2;", "3x -3y <= 1"},
		{"assume x==y and y==5;", "x = 5, y = 5"},
		{"assume 2*x<=3 and 2*x>=3;", "2x = 3"},
		{"assume 2147483648*x<=2147483648;", "x <= 1"},
		{"assume 2147483648*x==-2147483648*x+2147483648;", "2x = 1"},
	})
	for _, act := range []string{"while true{}", "x=1;", "x=x*y;", "z=1;", "read x;", "a[0]=1;", "assume x<1;", "assume true;", "assert z!=1;"} {
		for _, empty := range []string{"none", "x >= 1, x <= 0", "2x = 1, 2x = 3"} {
			checkSteps(t, "xy", empty, []step{{act, "none"}})
		}
	}
}

// P162: rows that cannot be handed in are told, however many; what has too great numbers is not.
func TestGoBounds(t *testing.T) {
	for _, c := range []struct {
		from, act, want string
		err             error
	}{
		{"", "assume 2147483648*x>=-2147483648*y-1;", "2147483648x 2147483648y >= -1", nil},
		{"", "assume 2147483648*x>=1-2147483647*x;", "4294967295x >= 1", nil},
		{"x = 2147483648", "x=2147483648*x;", "x = 4611686018427387904", nil},
		{"x = 2147483648", "x=2147483648*x+1;", "", api.ErrBound},
		{"x = -2147483648", "x=2147483648*x;", "x = -4611686018427387904", nil},
		{"x = -2147483648", "x=2147483648*x-1;", "", api.ErrBound},
		{"x = 2147483648, y = 3", "y=2147483648*x+1;", "", api.ErrBound},
		{"x = 2147483648, y = 3", "z=2147483648*x+1;", "x = 2147483648, y = 3", nil},
		{"x = 2147483648, y = 3", "y=2147483649*x;", "x = 2147483648", nil},
		{"2147483648x -2147483647y = 1", "assume 2147483647*x+2147483646*y==1;", "", api.ErrBound},
	} {
		p, err := Go(names(), Choice{0, 1}, loose("xy", c.from), actOf(t, c.act))
		if err != c.err || err != nil && !isZero(p) || err == nil && !sameGreat(p, loose("xy", c.want)) {
			t.Error(c, said("xy", p), err)
		}
	}
	// Sides at a parabola: none of them is needless.
	for _, many := range []int{1, 24, 25, 59, 60, 61, 90} {
		var l []string
		for i := range many {
			l = append(l, "y>="+strconv.Itoa(100*i)+"*x-"+strconv.Itoa(2500*i*i))
		}
		p, err := Go(names(), Choice{0, 1}, api.Poly{Dim: 2}, actOf(t, "assume "+strings.Join(l, " and ")+";"))
		if len(p.Rows) != many || err != nil {
			t.Error(many, len(p.Rows), err)
		}
	}
}

// sameGreat: p is what q is, whose rows, all of them in form but for their order, may be too great to be handed in.
func sameGreat(p, q api.Poly) bool {
	return len(p.Rows) == len(q.Rows) && p.Dim == q.Dim && !slices.ContainsFunc(q.Rows, func(r api.Row) bool {
		return !slices.ContainsFunc(p.Rows, func(s api.Row) bool { return s.Eq == r.Eq && s.B == r.B && slices.Equal(s.A, r.A) })
	})
}

// P162: the least polyhedron of what comes, by what polyhedra do.
func TestGoExact(t *testing.T) {
	m := makerOf(162)
	kinds, nones := map[string]int{}, 0
	for range 4000 {
		of := m.of(5)
		c := chosen(of)
		p, _ := m.state(c)
		check := func(text string, want api.Poly, err error) {
			t.Helper()
			a := actOf(t, text)
			got, wrong := Go(names(), c, p, a)
			if err != nil || wrong != nil || !same(got, want) {
				t.Fatalf("%s: %s: %s: %s %v, want %s %v", of, said(of, p), text, said(of, got), wrong, said(of, want), err)
			}
			if kinds[a.Kind]++; slices.ContainsFunc(got.Rows, func(r api.Row) bool { return r.B > 0 && !slices.ContainsFunc(r.A, func(n int) bool { return n != 0 }) }) {
				nones++
			}
		}
		form, err := poly.Form(p)
		check(m.one("while true{}", "a[1]=x*y;", "assume true;"), form, err)
		if len(of) == 0 {
			continue
		}
		x := m.Intn(len(of))
		name, sum := of[x:x+1], m.sum(of, 9)
		less, err := ops.Forget(p, x)
		check(m.one("read "+name+";", name+"="+name+"*"+name+";", name+"="+m.one("a[0]", "1/1", "x%y")+";"), less, err)
		times := sumOf(t, c, sum)
		image := make(ops.Map, len(of))
		for i := range image {
			image[i] = make([]int, len(of)+1)
			image[i][i] = 1
		}
		image[x] = times
		become, err := ops.Image(p, image)
		check(name+"="+sum+";", become, err)
		rel, other := m.rel(), m.sum(of, 9)
		row := rowOf(times, rel, sumOf(t, c, other))
		both, err := ops.Meet(p, api.Poly{Dim: len(of), Rows: []api.Row{row}})
		check("assume "+sum+rel+other+m.one("", " and z!=z", " and x*x<0")+";", both, err)
	}
	if kinds["skip"] < 500 || kinds["set"] < 2000 || kinds["read"] < 500 || kinds["test"] < 3000 || nones < 300 {
		t.Error(kinds, nones)
	}
}

func sumOf(t *testing.T, c Choice, sum string) []int {
	t.Helper()
	l, ok, err := Linear(names(), c, termOf(t, sum))
	if !ok || err != nil {
		t.Fatal(sum, l, ok, err)
	}
	return l
}

// rowOf a test between sums, by its words: "<" is "<=" of one less.
func rowOf(a []int, rel string, b []int) api.Row {
	r := api.Row{Eq: rel == "=="}
	sign := 1
	if rel[0] == '<' {
		sign = -1
	}
	for i := range a {
		r.A = append(r.A, sign*(a[i]-b[i]))
	}
	last := len(a) - 1
	r.A, r.B = r.A[:last], -r.A[last]
	if rel == "<" || rel == ">" {
		r.B++
	}
	return r
}

// P162: all that makes the polyhedron is set by hand, and makes the next one.
func TestGoExactByGens(t *testing.T) {
	m := makerOf(1620)
	for range 2000 {
		of := m.one("x", "xy", "xyz", "xyzw", "xyzwv")
		c := chosen(of)
		p, _ := m.state(c)
		gens, err := poly.Generate(p)
		if err != nil || poly.ValidGens(gens) != nil {
			continue
		}
		x, sum := m.Intn(len(of)), m.sum(of, 5)
		times := sumOf(t, c, sum)
		value := func(l []int, den int) int {
			n := times[len(l)] * den
			for i, k := range l {
				n += times[i] * k
			}
			return n
		}
		for _, p := range gens.Points {
			p.X[x] = value(p.X, p.Den)
		}
		for _, l := range slices.Concat(gens.Rays, gens.Lines) {
			l[x] = value(l, 0)
		}
		want, err := poly.Constrain(gens)
		got, wrong := Go(names(), c, p, actOf(t, of[x:x+1]+"="+sum+";"))
		if !same(got, want) || err != nil || wrong != nil {
			t.Fatal(said(of, p), sum, said(of, got), err, wrong)
		}
	}
}

// eliminated: x is in no row that comes of rows without Eq: these are those without it, and of each that bounds it from below and each that does so from above the sum in which it is not.
func eliminated(p api.Poly, x int) []api.Row {
	var l []api.Row
	for _, r := range p.Rows {
		if r.A[x] == 0 {
			l = append(l, r)
		}
		for _, s := range p.Rows {
			if n, k := r.A[x], -s.A[x]; n > 0 && k > 0 {
				sum := api.Row{B: k*r.B + n*s.B}
				for i := range r.A {
					sum.A = append(sum.A, k*r.A[i]+n*s.A[i])
				}
				l = append(l, sum)
			}
		}
	}
	return l
}

// formOf however many rows.
func formOf(t *testing.T, dim int, rows []api.Row) api.Poly {
	t.Helper()
	p, err := exact.Of(api.Poly{Dim: dim, Rows: rows}).AllRows()
	if err != nil {
		t.Fatal(err)
	}
	return p
}

// P162: as many rows as polyhedra are else told by, and more, come of few.
func TestGoManyRows(t *testing.T) {
	m := makerOf(1622)
	of := "xyzwv"
	c, seen := chosen(of), map[string]int{}
	for range 25 {
		p := api.Poly{Dim: 5}
		// Around a ball of 1000 no side is needless.
		for range 12 + m.Intn(13) {
			r, square := api.Row{}, 0
			for range p.Dim {
				r.A = append(r.A, m.Intn(19)-9)
				square += r.A[len(r.A)-1] * r.A[len(r.A)-1]
			}
			for r.B*r.B < 1_000_000*square {
				r.B--
			}
			p.Rows = append(p.Rows, r)
		}
		rows := eliminated(p, 0)
		less, err := ops.Forget(p, 0)
		got, wrong := Go(names(), c, p, actOf(t, "read x;"))
		if !same(got, formOf(t, 5, rows)) || wrong != nil || err == nil && !same(got, less) {
			t.Fatal(said(of, p), said(of, got), wrong, err)
		}
		become, err := ops.Image(p, ops.Map{{0, 2, 1, 0, 0, 0}, {0, 1, 0, 0, 0, 0}, {0, 0, 1, 0, 0, 0}, {0, 0, 0, 1, 0, 0}, {0, 0, 0, 0, 1, 0}})
		set, wrong := Go(names(), c, p, actOf(t, "x=2*y+z;"))
		rows = append(rows, api.Row{Eq: true, A: []int{1, -2, -1, 0, 0}})
		if !same(set, formOf(t, 5, rows)) || wrong != nil || err == nil && !same(set, become) {
			t.Fatal(said(of, p), said(of, set), wrong, err)
		}
		switch n := len(got.Rows); {
		case n > api.MaxMany:
			seen["more"]++
		case n > api.MaxRows:
			seen["many"]++
		}
	}
	if seen["more"] < 3 || seen["many"] < 3 {
		t.Error(seen)
	}
}

// P162: many tests are exact, too, and where numbers are small all is told.
func TestGoManyTests(t *testing.T) {
	m := makerOf(1621)
	for range 300 {
		of := m.one("xy", "xyz", "xyzw", "xyzwv")
		c := chosen(of)
		p, _ := m.state(c)
		q := p
		var l []string
		for range 1 + m.Intn(30) {
			sum, rel, other := m.sum(of, 9), m.one("<", "<=", ">=", ">"), m.sum(of, 9)
			l = append(l, sum+rel+other)
			q.Rows = append(slices.Clone(q.Rows), rowOf(sumOf(t, c, sum), rel, sumOf(t, c, other)))
		}
		got, err := Go(names(), c, p, actOf(t, "assume "+strings.Join(l, " and ")+";"))
		if err != nil {
			t.Fatal(said(of, p), l, err)
		}
		// Met by a few rows at a time, by way of polyhedra that can be handed in.
		want, wrong := poly.Form(p)
		for _, r := range q.Rows[len(p.Rows):] {
			if wrong == nil {
				want, wrong = ops.Meet(want, api.Poly{Dim: len(of), Rows: []api.Row{r}})
			}
		}
		if wrong == nil && !same(got, want) {
			t.Fatal(said(of, p), l, said(of, got))
		}
	}
}

// P161, P162: graphs, choices, polyhedra and acts that are none, and which error comes first.
func TestGoErrors(t *testing.T) {
	g, c := names(), Choice{0, 1}
	skip := flow.Act{Kind: "skip"}
	good := loose("xy", "x = 0, y = 0")
	many := api.Poly{Dim: 2, Rows: slices.Repeat([]api.Row{{A: []int{1, 0}}}, 25)}
	far := api.Poly{Dim: 2, Rows: []api.Row{{A: []int{1, 0}, B: api.MaxEntry + 1}}}
	shape := api.Poly{Dim: 2, Rows: []api.Row{{A: []int{1}}}}
	six := flow.Graph{Vars: []string{"a", "b", "c", "d", "e", "f"}, Points: 1}
	five := api.Poly{Dim: 5}
	for i, k := range []struct {
		g    flow.Graph
		c    Choice
		p    api.Poly
		a    flow.Act
		want error
	}{
		{g, c, good, skip, nil},
		{g, nil, api.Poly{}, skip, nil},
		{g, Choice{4}, api.Poly{Dim: 1}, skip, nil},
		{g, Choice{0, 1, 2, 3, 4}, five, skip, nil},
		{six, Choice{0, 2, 3, 4, 5}, five, skip, nil},
		{flow.Graph{Points: 1}, nil, api.Poly{}, skip, nil},
		{g, c, api.Poly{Dim: 2, Rows: many.Rows[:24]}, skip, nil},
		// A choice that is none.
		{g, Choice{1, 0}, good, skip, api.ErrShape},
		{g, Choice{1, 1}, good, skip, api.ErrShape},
		{g, Choice{-1, 1}, good, skip, api.ErrShape},
		{g, Choice{0, 5}, good, skip, api.ErrShape},
		{g, Choice{math.MinInt, math.MaxInt}, good, skip, api.ErrShape},
		{six, Choice{0, 1, 2, 3, 4, 5}, five, skip, api.ErrShape},
		{flow.Graph{Points: 1}, Choice{0}, api.Poly{Dim: 1}, skip, api.ErrShape},
		// A polyhedron that is none of the choice, or none.
		{g, c, api.Poly{}, skip, api.ErrShape},
		{g, c, api.Poly{Dim: 3}, skip, api.ErrShape},
		{g, nil, good, skip, api.ErrShape},
		{g, c, shape, skip, api.ErrShape},
		{g, c, many, skip, api.ErrBound},
		{g, c, far, skip, api.ErrBound},
		{g, c, api.Poly{Dim: 6}, skip, api.ErrBound},
		{g, c, api.Poly{Dim: -1}, skip, api.ErrBound},
		// A polyhedron that is wrong in itself is told ahead of all but the graph.
		{g, Choice{1, 0}, far, skip, api.ErrBound},
		{g, Choice{2}, many, skip, api.ErrBound},
		{g, c, far, flow.Act{Kind: "read", Name: "u"}, api.ErrBound},
		{g, c, many, flow.Act{Kind: "jump"}, api.ErrBound},
		{flow.Graph{}, nil, far, skip, api.ErrShape},
		{flow.Graph{Vars: g.Vars, Points: 121}, c, many, skip, api.ErrShape},
		{flow.Graph{Vars: []string{"x", "x"}, Points: 1}, c, far, skip, api.ErrShape},
		{flow.Graph{Vars: g.Vars, Points: 1, Heads: []int{1}}, c, good, skip, api.ErrShape},
		{flow.Graph{Vars: g.Vars, Points: 1, Edges: []flow.Edge{{Act: flow.Act{Kind: "read", Name: "u"}}}}, c, good, skip, api.ErrShape},
	} {
		p, err := Go(k.g, k.c, k.p, k.a)
		if err != k.want || err != nil && !isZero(p) {
			t.Error(i, p, err)
		}
		if k.a.Kind != "skip" {
			continue
		}
		edge, is, err := Holds(k.g, k.c, []api.Poly{k.p})
		if err != k.want || err != nil && (edge != 0 || is) {
			t.Error(i, edge, is, err)
		}
		if k.want == nil || k.p.Dim == len(k.c) && poly.Valid(k.p) == nil {
			l, is, err := Linear(k.g, k.c, lang.Expr{Op: "num", N: 3})
			if err != k.want || is != (err == nil) || is && len(l) != len(k.c)+1 || !is && len(l) > 0 {
				t.Error(i, l, is, err)
			}
			tab, err := Scan(k.g, k.c)
			if err != k.want || (err == nil) != (len(tab) == 1) {
				t.Error(i, tab, err)
			}
		}
	}
}

// terms that are none, or have names that are none.
func wrongTerms() (none, unknown []lang.Expr) {
	x, u := lang.Expr{Op: "var", Name: "x"}, lang.Expr{Op: "var", Name: "u"}
	terms := func(l ...lang.Expr) []lang.Expr { return l }
	shared := x
	for range 100 {
		shared = lang.Expr{Op: "-", L: terms(shared, shared)}
	}
	none = []lang.Expr{{}, shared, {Op: "?"}, {Op: "+"}, {Op: "neg"}, {Op: "+", L: terms(x)}, {Op: "*", L: terms(x, x, x)}, {Op: "num", N: 1, Name: "x"}, {Op: "var", Name: "x", N: 1}, {Op: "var", Name: "x", L: terms(x)}, {Op: "at", Name: "a"}, {Op: "num", N: api.MaxValue + 1}, {Op: "num", N: math.MinInt}, {Op: "neg", L: slices.Repeat(terms(shared), 5000)}}
	unknown = []lang.Expr{u, {Op: "var"}, {Op: "var", Name: "a"}, {Op: "at", Name: "x", L: terms(x)}, {Op: "at", Name: "u", L: terms(x)}, {Op: "at", Name: "a", L: terms(u)}, {Op: "+", L: terms(x, u)}, {Op: "*", L: terms(u, x)}, {Op: "/", L: terms(x, lang.Expr{Op: "neg", L: terms(u)})}, {Op: "-", L: terms(lang.Expr{Op: "at", Name: "c", L: terms(x)}, x)}}
	return none, unknown
}

// P161: names that are none are told, whatever the term is; what is no term is no sum.
func TestLinearErrors(t *testing.T) {
	none, unknown := wrongTerms()
	for i, e := range none {
		if l, ok, err := Linear(names(), chosen("xy"), e); len(l) > 0 || ok || err != nil {
			t.Error(i, l, ok, err)
		}
	}
	for i, e := range unknown {
		if l, ok, err := Linear(names(), chosen("xy"), e); len(l) > 0 || ok || err != api.ErrShape {
			t.Error(i, l, ok, err)
		}
	}
}

// P161: a sum is one also where a text has none such.
func TestLinearWithoutText(t *testing.T) {
	x := lang.Expr{Op: "var", Name: "x"}
	deep, long := x, x
	for range 101 {
		deep = lang.Expr{Op: "neg", L: []lang.Expr{deep}}
	}
	for range 1500 {
		long = lang.Expr{Op: "+", L: []lang.Expr{long, x}}
	}
	for i, c := range []struct {
		e    lang.Expr
		want []int
	}{{deep, []int{-1, 0, 0}}, {long, []int{1501, 0, 0}}, {lang.Expr{Op: "num", N: -3}, []int{0, 0, -3}}} {
		if l, ok, err := Linear(names(), chosen("xy"), c.e); !slices.Equal(l, c.want) || !ok || err != nil {
			t.Error(i, l, ok, err)
		}
	}
}

// P162: acts that are none, also where nothing comes of them.
func TestActErrors(t *testing.T) {
	x := lang.Expr{Op: "var", Name: "x"}
	terms := func(l ...lang.Expr) []lang.Expr { return l }
	acts := []flow.Act{{}, {Kind: "jump"}, {Kind: "skip", Name: "x"}, {Kind: "read"}, {Kind: "read", Name: "u"}, {Kind: "read", Name: "a"}, {Kind: "set", Name: "x"}, {Kind: "set", Name: "u", Args: terms(x)}, {Kind: "set", Name: "a", Args: terms(x)}, {Kind: "put", Name: "x", Args: terms(x, x)}, {Kind: "put", Name: "a", Args: terms(x)}, {Kind: "test", Name: "x"}, {Kind: "test", Tests: []lang.Test{{A: x, Rel: "=", B: x}}}, {Kind: "fail", Args: terms(x)}}
	none, unknown := wrongTerms()
	for _, e := range append(slices.Concat(none, unknown), lang.Expr{Op: "num", N: -3}) {
		acts = append(acts, flow.Act{Kind: "set", Name: "x", Args: terms(e)}, flow.Act{Kind: "set", Name: "z", Args: terms(e)}, flow.Act{Kind: "put", Name: "a", Args: terms(x, e)}, flow.Act{Kind: "test", Tests: []lang.Test{{A: x, Rel: "<", B: e}}}, flow.Act{Kind: "fail", Tests: []lang.Test{{A: e, Rel: "!=", B: x}}})
	}
	for _, a := range acts {
		for _, p := range []string{"x = 0", "none"} {
			if to, err := Go(names(), chosen("xy"), loose("xy", p), a); err != api.ErrShape || !isZero(to) {
				t.Error(a.Kind, a.Name, to, err)
			}
		}
	}
}

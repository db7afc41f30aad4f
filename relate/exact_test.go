package relate

import (
	"math/rand"
	"slices"
	"strconv"
	"testing"

	"raycone/flow"
	"raycone/octagon"
)

// exact act of the chosen, as a statement: of those of which the least octagon is told.
func (m maker) exact(of string) string {
	n := strconv.Itoa(m.Intn(6))
	if of == "" {
		return m.one("while true{}", "x="+n+";")
	}
	pick := func() string { i := m.Intn(len(of)); return of[i : i+1] }
	x, y := pick(), pick()
	like := m.one(y, "-"+y)
	sum := m.one(like, like+"+"+n, like+"-"+n)
	switch m.Intn(5) {
	case 0:
		return m.one("while true{}", x+"="+m.one(n, "-"+n)+";")
	case 1, 2:
		return x + "=" + sum + ";"
	}
	kind, other := m.one("assume ", "assert "), m.one(n, "-"+n, y, y+"+"+n, y+"-"+n)
	return kind + m.one(x+m.rel()+other, other+m.rel()+x) + ";"
}

// window of points of n variables, each from -3 to 3.
func window(n int) [][]int {
	l := [][]int{{}}
	for range n {
		var more [][]int
		for _, p := range l {
			for x := -3; x <= 3; x++ {
				more = append(more, append(slices.Clone(p), x))
			}
		}
		l = more
	}
	return l
}

// boxed octagon: its points are all in the window.
func (m maker) boxed(n int) octagon.Octagon {
	o := flat(n)
	size, few := 2*n, 1+m.Intn(4)
	for k := range o.L {
		i, j := k/size, k%size
		if i == j || i^1 != j && m.Intn(few) > 0 {
			continue
		}
		c := octagon.Cell{Has: true, Most: m.Intn(9) - 2}
		if i^1 == j {
			c.Most = max(m.Intn(14)-7, m.Intn(14)-7, m.Intn(14)-7)
		}
		o.L[k], o.L[(j^1)*size+(i^1)] = c, c
	}
	return o
}

// made of the points of an octagon by an act, the other variables being anything: what the machine makes of each.
func (m maker) made(t *testing.T, c Choice, o octagon.Octagon, a flow.Act) [][]int {
	t.Helper()
	g := names()
	g.Edges = []flow.Edge{{Act: a}}
	var out [][]int
	for _, p := range window(len(c)) {
		if in, err := octagon.Has(o, p); !in || err != nil {
			continue
		}
		v := m.values()
		for i, n := range c {
			v.vars[n] = p[i]
		}
		l, err := flow.Steps(g, 0, v.vars, v.arrays, 0)
		if err != nil {
			t.Fatal(err)
		}
		for _, next := range l {
			out = append(out, picked(c, next.Vars))
		}
	}
	return out
}

// P151: the least octagon of what comes, point by point.
func TestGoExact(t *testing.T) {
	m := maker{rand.New(rand.NewSource(151))}
	kinds, nones := map[string]int{}, 0
	for range 4000 {
		of := m.of(3)
		c, o := chosen(of), m.boxed(len(of))
		text := m.exact(of)
		a := actOf(t, text)
		if a.Kind == "test" && m.Intn(3) == 0 {
			a.Kind = "fail"
		}
		points := m.made(t, c, o, a)
		want := State{None: true}
		if len(points) > 0 {
			want = State{Oct: leastOf(len(of), points)}
			kinds[a.Kind]++
		} else {
			nones++
		}
		if s, err := Go(names(), c, State{Oct: o}, a); !same(s, want) || err != nil {
			t.Fatalf("%s: %s: %s: %s %v, want %s", of, said(of, State{Oct: o}), text, said(of, s), err, said(of, want))
		}
	}
	if kinds["skip"] < 100 || kinds["set"] < 500 || kinds["test"] < 100 || kinds["fail"] < 100 || nones < 300 {
		t.Error(kinds, nones)
	}
}

// P151: octagons of any size, also without bounds, by what octagons do.
func TestGoExactByOctagons(t *testing.T) {
	m := maker{rand.New(rand.NewSource(1510))}
	for range 3000 {
		of := m.of(4)
		c := chosen(of)
		s, _ := m.state(c)
		closed, _, err := octagon.Close(s.Oct)
		if err != nil {
			t.Fatal(err)
		}
		check := func(act string, want octagon.Octagon, ok bool, err error) {
			t.Helper()
			if got, wrong := Go(names(), c, s, actOf(t, act)); err != nil || wrong != nil || !same(got, told(want, ok, nil)) {
				t.Fatalf("%s: %s: %s: %s %v %v", of, said(of, s), act, said(of, got), err, wrong)
			}
		}
		check("while true{}", closed, true, nil)
		for n, name := range []string{"x", "y", "z", "w"} {
			x := slices.Index(c, n)
			if x < 0 {
				check("read "+name+";", closed, true, nil)
				check(name+"=x+y*a[0];", closed, true, nil)
				continue
			}
			forgot, ok, err := octagon.Forget(s.Oct, x)
			check("read "+name+";", forgot, ok, err)
			y, sign, add := m.Intn(len(c)), m.Intn(2)*2-1, m.Intn(2001)-1000
			set, ok, err := octagon.Assign(s.Oct, x, sign, y, add)
			check(name+"="+map[int]string{1: "", -1: "-"}[sign]+of[y:y+1]+signed(add)+";", set, ok, err)
			if y == x {
				continue
			}
			guarded, ok, err := octagon.Guard(s.Oct, 1, x, -1, y, add)
			check("assume "+name+"<="+of[y:y+1]+signed(add)+";", guarded, ok, err)
			check("assume "+of[y:y+1]+signed(add+1)+">"+name+";", guarded, ok, err)
			guarded, ok, err = octagon.Guard(s.Oct, 0, y, -1, x, -add)
			check("assume "+name+">="+strconv.Itoa(add)+";", guarded, ok, err)
			check("assume "+strconv.Itoa(add-1)+"<"+name+";", guarded, ok, err)
		}
	}
}

// signed number, behind a term.
func signed(n int) string {
	if n < 0 {
		return strconv.Itoa(n)
	}
	return "+" + strconv.Itoa(n)
}

package back

import (
	"slices"
	"testing"

	"raycone/api"
	"raycone/flow"
	"raycone/hull"
	"raycone/poly"
)

// P181: what is needed so that the last point is come to, by hand, point by point: x, y and z are x0, x1 and x2.
func TestNeedByHand(t *testing.T) {
	for _, c := range []struct {
		main string
		want []string
	}{
		{"", []string{""}},
		{"x=1;", []string{"", ""}},
		{"assume x>=1 and y<=z;", []string{"x0 >= 1, -x1 + x2 >= 0", ""}},
		{"read x;assume x>=1;", []string{"", "x0 >= 1", ""}},
		{"x=y+z;assume x==7;", []string{"x1 + x2 = 7", "x0 = 7", ""}},
		{"x=1;assume x==2;", []string{"0 >= 1", "x0 = 2", ""}},
		{"assume x<0 or x>5;", []string{"", ""}},
		{"assume x==0 or x==5;", []string{"x0 >= 0, -x0 >= -5", ""}},
		{"if x<y{z=y-x;}else{z=x-y;}assume z==3;", []string{"-x0 + x1 >= -3, x0 - x1 >= -3", "-x0 + x1 = 3", "x2 = 3", "x0 - x1 = 3", "x2 = 3", "x2 = 3", ""}},
		{"y=0;while y<4{y=y+1;}assume y==4;", []string{"", "-x1 >= -4", "-x1 >= -4", "-x1 >= -3", "-x1 >= -4", "x1 = 4", ""}},
		{"read x;while x>=3{x=x-3;}assume x==1;", []string{"", "x0 >= 1", "x0 >= 1", "x0 >= 4", "x0 >= 1", "x0 = 1", ""}},
	} {
		g := built(t, c.main)
		for _, rounds := range []int{0, 3, 10} {
			got, err := Need(g, chosen("xyz"), g.Points-1, rounds)
			if err != nil || len(got) != g.Points || len(c.want) != g.Points {
				t.Fatal(c.main, rounds, said(t, got...), err)
			}
			for at, want := range c.want {
				if !same(got[at], formed(3, want)) {
					t.Error(c.main, rounds, at, said(t, got[at]), "want", want)
				}
			}
		}
	}
}

// P181: while no bound is let go, what hangs together is seen. The last point but some is come to.
func TestNeedRounds(t *testing.T) {
	for _, c := range []struct {
		main            string
		less            int
		at              int
		wide, wideFirst string // without rounds, at a point and at the first one
		told, toldFirst string // with some
	}{
		{"x=0;y=0;while x<10{x=x+1;y=y+2;}assert y>=20;", 1, 3, "-x1 >= -19", "", "-x1 >= -19, 2 x0 - x1 >= 1", "none"},
		{"while x<y{x=x+1;z=z+1;}assume z==5;assume y==5;", 0, 2, "x1 = 5, -x2 >= -4", "x1 = 5, -x2 >= -5", "x1 = 5, -x2 >= -4, x0 - x2 >= 0", "x1 = 5, -x2 >= -5, x0 - x2 >= 0"},
	} {
		g := built(t, c.main)
		for _, rounds := range []int{0, 2, 3, 7, 10} {
			got, err := Need(g, chosen("xyz"), g.Points-1-c.less, rounds)
			want, first := c.told, c.toldFirst
			if rounds == 0 {
				want, first = c.wide, c.wideFirst
			}
			if err != nil || !same(got[c.at], formed(3, want)) || !same(got[0], formed(3, first)) {
				t.Error(c.main, rounds, said(t, got...), err)
			}
		}
	}
}

// leading points: those from which a way of edges leads to the target.
func leading(g flow.Graph, target int) []bool {
	l := make([]bool, g.Points)
	l[target] = true
	for again := true; again; {
		again = false
		for _, e := range g.Edges {
			if l[e.To] && !l[e.From] {
				l[e.From], again = true, true
			}
		}
	}
	return l
}

// checkNeed of a graph: what is told can be handed in again; all at the target; nothing from where no way leads there; and whatever a walk has come to on its way.
func checkNeed(t *testing.T, g flow.Graph, c hull.Choice, target, rounds int, walks [][]stop) {
	t.Helper()
	got, err := Need(g, c, target, rounds)
	if err != nil || len(got) != g.Points {
		t.Fatal(g, c, target, rounds, got, err)
	}
	leads := leading(g, target)
	for at, p := range got {
		none, err := poly.Empty(p)
		if err != nil || p.Dim != len(c) || !isForm(t, p) || !leads[at] && !none || at == target && len(p.Rows) > 0 {
			t.Fatal(g, c, target, rounds, at, said(t, p), err)
		}
	}
	for _, walk := range walks {
		last := len(walk) - 1
		for last >= 0 && walk[last].at != target {
			last--
		}
		for _, s := range walk[:last+1] {
			if !has(t, got[s.at], picked(c, s.vars)) {
				t.Fatal(g, c, target, rounds, s, said(t, got[s.at]))
			}
		}
	}
}

// P181, P183: of programs, and of graphs that no program has.
func TestNeedAlways(t *testing.T) {
	m := makerOf(181)
	come, far := 0, 0
	for range 700 {
		g, c := m.graph(t), chosen(m.of(5))
		var walks [][]stop
		for range 6 {
			walks = append(walks, m.walk(t, g, 30))
		}
		target := m.Intn(g.Points)
		if m.Intn(4) > 0 {
			one := walks[m.Intn(len(walks))]
			target = one[len(one)-1].at
		}
		checkNeed(t, g, c, target, m.Intn(11), walks)
		if slices.ContainsFunc(walks, func(w []stop) bool { return w[len(w)-1].at == target && len(w) > 3 }) {
			come++
		}
		if slices.Contains(leading(g, target), false) {
			far++
		}
	}
	if come < 200 || far < 200 {
		t.Error(come, far)
	}
}

// P183: of loops that count, run until they end.
func TestNeedLoops(t *testing.T) {
	m := makerOf(183)
	come := 0
	for range 20 {
		main := "read x;read y;read z;w=0;while w<" + m.one("3", "x", "7", "y") + "{w=w+1;" + m.block(2, 1) + "}" + m.block(2, 0) + "assume " + m.row() + ";"
		g := built(t, main)
		var walks [][]stop
		for range 6 {
			walks = append(walks, m.walk(t, g, 60))
		}
		for _, rounds := range []int{0, 1, 5, 10} {
			for _, walk := range walks {
				checkNeed(t, g, chosen("xyzwv"), walk[len(walk)-1].at, rounds, walks)
				if len(walk) > 15 {
					come++
				}
			}
		}
	}
	if come < 100 {
		t.Error(come)
	}
}

// P181: more rows than can be handed in, and greater numbers, are let go.
func TestNeedTooMuch(t *testing.T) {
	c := chosen("xyzwv")
	var rows string
	for i, r := range funnels(2).Rows {
		if i > 0 {
			rows += " and "
		}
		rows += sumText(r) + ">=" + "-100"
	}
	g := built(t, "read x;assume "+rows+";")
	got, err := Need(g, c, 2, 3)
	if err != nil || poly.Valid(got[0]) != nil || len(got[0].Rows) != api.MaxRows || len(got[1].Rows) != 24 {
		t.Error(said(t, got...), err)
	}
	if all, err := hull.Go(g, c, got[1], g.Edges[0].Act); len(all.Rows) != 144 || err != nil {
		t.Error(len(all.Rows), err)
	}
	g = built(t, "x=2147483648*x;x=2147483648*x;x=2147483648*x;assume x==2147483648 and y==3;")
	got, err = Need(g, chosen("xy"), g.Points-1, 3)
	if want := read(2, "x1 = 3"); err != nil || !same(got[3], read(2, "x0 = 2147483648, x1 = 3")) || !same(got[2], read(2, "x0 = 1, x1 = 3")) || !same(got[1], read(2, "2147483648 x0 = 1, x1 = 3")) || !same(got[0], want) {
		t.Error(said(t, got...), err)
	}
}

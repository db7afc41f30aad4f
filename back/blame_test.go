package back

import (
	"slices"
	"strings"
	"testing"

	"raycone/api"
	"raycone/flow"
	"raycone/hull"
	"raycone/lang"
	"raycone/machine"
	"raycone/poly"
)

// fails: the edges fail of a graph.
func fails(g flow.Graph) []int {
	var l []int
	for i, e := range g.Edges {
		if e.Act.Kind == "fail" {
			l = append(l, i)
		}
	}
	return l
}

// shownBy Scan alone, and by Need alone, with some rounds: no run goes along an edge.
func shownBy(t *testing.T, g flow.Graph, c hull.Choice, tab []api.Poly, edge int) (scan, need bool) {
	t.Helper()
	e := g.Edges[edge]
	p, err := hull.Go(g, c, tab[e.From], e.Act)
	if err != nil {
		t.Fatal(err)
	}
	scan, err = poly.Empty(p)
	if err != nil {
		t.Fatal(err)
	}
	for _, rounds := range []int{0, 1, 2, 5, 10} {
		l, err := Need(g, c, e.To, rounds)
		if err != nil {
			t.Fatal(err)
		}
		need = need || !has(t, l[0], make([]int, len(c)))
	}
	return scan, need
}

// P182: by hand; of each program the edges fail by their places among these, and whether Scan, or Need, alone shows all others.
func TestBlameByHand(t *testing.T) {
	const sign = "read x;if x>0{y=1;}else{if x<0{y=1;}else{y=%;}}assert x<0 or x>0 or y<=0;"
	for _, c := range []struct {
		main       string
		want       []int
		scan, need bool
	}{
		{"x=1;", nil, true, true},
		{"assert x==0;", nil, false, false},
		{"assert x==1;", []int{0}, true, true},
		{"assert x!=1;", nil, true, true},
		{"read x;assert x!=7;", []int{0}, true, true},
		{"read x;assert x==7;", []int{0}, true, true},
		{"read x;assert x>=0;assert x<5 or x==9;assert x>=-1;", []int{0, 1}, true, true},
		{"while x<10{x=x+1;}assert x>=10;", nil, true, true},
		{"while x<10{x=x+1;}assert x==10;", nil, false, false},
		{"while x<10{x=x+1;}assert x==10 and y==0;", nil, false, false},
		{"while x<10{x=x+1;}assert x==10 and y==x;", []int{1}, false, false},
		{"while x<10{x=x+1;}assert x!=10;", []int{0}, true, true},
		{"x=0;y=0;while x<10{x=x+1;y=y+2;}assert y<=20;assert y>=20;", nil, true, false},
		{"read x;read y;if x<y{z=x;}else{z=y;}assert z<=x;assert z<=y;", nil, true, true},
		{"read x;y=x*x;assert y>=0;", []int{0}, true, true},
		{"read x;y=x*x;assume y<0;assert false;", []int{0}, true, true},
		{"x=3;assume x<0;assert false;", nil, true, true},
		{"assert false;assert true;", []int{0}, true, true},
		{"read x;y=2*x;assert y!=1;", []int{0}, true, true},
		{"read x;assert x<0 or x>=0;", nil, true, true},
		// Where ways meet Scan forgets which of them was gone.
		{strings.ReplaceAll(sign, "%", "0"), nil, false, true},
		{strings.ReplaceAll(sign, "%", "1"), []int{0}, true, true},
		// And Need does not know what has come before.
		{"z=0;w=0;while z<10{z=z+1;w=w+2;}" + strings.ReplaceAll(sign, "%", "w-20"), nil, false, false},
		{"z=0;w=0;while z<10{z=z+1;w=w+2;}" + strings.ReplaceAll(sign, "%", "w-19"), []int{0}, true, true},
		{"z=0;w=0;while z<10{z=z+1;w=w+2;}" + strings.ReplaceAll(sign, "%", "w-20;w=0"), nil, false, false},
		{"z=0;w=0;while z<10{z=z+1;w=w+2;}" + strings.ReplaceAll(sign, "%", "w-19;w=0"), []int{0}, true, true},
		// Along != there is no way where both sides are known.
		{"x=3;if x!=3{y=1;}x=0;assert y<=0;", nil, false, false},
		{"x=3;if x!=2{y=1;}x=0;assert y<=0;", []int{0}, true, true},
	} {
		g, of := built(t, c.main), chosen("xyzw")
		got, err := Blame(g, of)
		if err != nil {
			t.Fatal(c.main, err)
		}
		all := fails(g)
		var want []int
		for _, n := range c.want {
			want = append(want, all[n])
		}
		if !slices.Equal(got, want) {
			t.Error(c.main, got, "want", want)
		}
		tab, err := hull.Scan(g, of)
		if err != nil {
			t.Fatal(err)
		}
		byScan, byNeed := true, true
		for _, i := range all {
			if !slices.Contains(got, i) {
				scan, need := shownBy(t, g, of, tab, i)
				byScan, byNeed = byScan && scan, byNeed && need
			}
		}
		if byScan != c.scan || byNeed != c.need {
			t.Error(c.main, byScan, byNeed)
		}
	}
}

// P182: each edge fail along which a run goes is told, in order, and nothing that Scan or Need shows.
func TestBlameAlways(t *testing.T) {
	m := makerOf(182)
	gone, shown, kept := 0, 0, 0
	for range 600 {
		g, c := m.graph(t), chosen(m.of(5))
		got, err := Blame(g, c)
		if err != nil {
			t.Fatal(err)
		}
		all := fails(g)
		if !slices.IsSorted(got) || len(slices.Compact(slices.Clone(got))) != len(got) {
			t.Fatal(g, got)
		}
		for range 6 {
			for _, s := range m.walk(t, g, 25) {
				if slices.Contains(all, s.by) {
					gone++
					if !slices.Contains(got, s.by) {
						t.Fatal(g, c, s, got)
					}
				}
			}
		}
		tab, err := hull.Scan(g, c)
		if err != nil {
			t.Fatal(err)
		}
		for _, i := range got {
			if !slices.Contains(all, i) {
				t.Fatal(g, got, i)
			}
			if scan, need := shownBy(t, g, c, tab, i); scan || need {
				t.Fatal(g, c, i, scan, need)
			}
		}
		kept += len(got)
		shown += len(all) - len(got)
	}
	if gone < 150 || shown < 150 || kept < 150 {
		t.Error(gone, shown, kept)
	}
}

// P182: of programs that count: what their runs fail is blamed.
func TestBlamePrograms(t *testing.T) {
	m := makerOf(1820)
	failed, safe := 0, 0
	for range 300 {
		x, y := m.one("x", "y", "z"), m.one("w", "v")
		main := "read x;read y;" + y + "=0;while " + y + "<" + m.one("3", "5", x) + "{" + y + "=" + y + "+1;" + m.one(x+"="+x+"+1;", x+"="+x+"-2;", "if "+x+"<"+y+"{"+x+"="+y+";}") + "}assert " + m.one(y, x) + m.rel() + m.one("3", "0", x, y) + ";assert " + m.one(x, y) + ">=" + m.one("0", "-1", "5") + ";"
		p, err := lang.Read(declared + "main{" + main + "}")
		if err != nil {
			t.Fatal(err)
		}
		g := built(t, main)
		got, err := Blame(g, chosen("xyzwv"))
		if err != nil {
			t.Fatal(err)
		}
		for range 10 {
			end, err := machine.Run(p, []int{m.number(), m.number()}, 200)
			if err != nil {
				t.Fatal(err)
			}
			if end.Kind == "failed" {
				failed++
				if len(got) == 0 {
					t.Fatal(main, end)
				}
			}
		}
		if len(got) == 0 {
			safe++
		}
	}
	if failed < 300 || safe < 20 {
		t.Error(failed, safe)
	}
}

// P182: where no more work may be done, all is blamed that Scan does not show; and what has been done goes for all edges.
func TestBlameWithoutWork(t *testing.T) {
	g, c := built(t, "read x;if x>0{y=1;}else{if x<0{y=1;}else{y=0;}}assert x<0 or x>0 or y<=0;assert y<3;assert x<7;assert x>=0 or x<1 or y>0;"), chosen("xy")
	tab, err := hull.Scan(g, c)
	if err != nil {
		t.Fatal(err)
	}
	all := fails(g)
	for left, want := range map[int][]int{0: {all[0], all[2]}, 20: {all[0], all[2]}, 2000: {all[2]}, work: {all[2]}} {
		b := blamerOf(g, c, tab)
		b.left = left
		l, err := b.blamed()
		if !slices.Equal(l, want) || err != nil || left > 0 && b.left >= left || b.left < left-2000 {
			t.Error(left, l, err, b.left, "want", want)
		}
	}
}

// P182: of point 0, too, more may be known than how all begins: so it is asked of that alone whether it is needed.
func TestBlameFromZeros(t *testing.T) {
	g := flow.Graph{Vars: []string{"x"}, Points: 2}
	for _, e := range []struct {
		to  int
		act string
	}{{0, "x=x+2;"}, {1, "assume x==1;"}, {1, "assume x==2;"}, {1, "assume x==0;"}, {1, "assume x==-1;"}} {
		g.Edges = append(g.Edges, flow.Edge{To: e.to, Act: actOf(t, e.act)})
	}
	for i := range g.Edges[1:] {
		g.Edges[i+1].Act.Kind = "fail"
	}
	if l, err := Blame(g, hull.Choice{0}); !slices.Equal(l, []int{2, 3}) || err != nil {
		t.Error(l, err)
	}
}

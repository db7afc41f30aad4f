package flow

import (
	"testing"

	"raycone/lang"
)

// Each act is done by its statement, in new memory.
func TestDeeds(t *testing.T) {
	p := read(t, "var x;var y;array a[4];main{x=y+1;a[x]=y;read y;assume x<1 and y<2;if true{}assert x<1 or a[1]<2;}")
	g, err := Build(p)
	if err != nil {
		t.Fatal(err)
	}
	want := read(t, "var x;var y;array a[4];main{x=y+1;a[x]=y;read y;assume x<1 and y<2;assume true;assume x>=1 and a[1]>=2;}").Main
	seen := map[string]int{}
	for i, e := range g.Edges {
		before := told(g)
		l := Deeds(e.Act)
		switch {
		case e.Act.Kind == "skip":
			if len(l) > 0 {
				t.Error(i, l)
			}
			continue
		case len(l) != 1:
			t.Fatal(i, l)
		}
		for n, s := range want {
			if told(s) == told(l[0]) {
				seen[told(n)]++
			}
		}
		for j := range l[0].Args {
			spoil(l[0].Args[j : j+1])
		}
		for _, row := range l[0].Cond {
			for j := range row {
				spoil(row[j].A.L)
				spoil(row[j].B.L)
				row[j] = lang.Test{}
			}
		}
		if told(g) != before {
			t.Fatal(i, "is kept")
		}
	}
	for n := range want {
		if seen[told(n)] == 0 {
			t.Error(n, seen)
		}
	}
	if l := Deeds(Act{Kind: "?", Name: "x"}); len(l) > 0 {
		t.Error(l)
	}
}

// spoil all that a list of terms holds.
func spoil(l []lang.Expr) {
	for i := range l {
		spoil(l[i].L)
		l[i] = lang.Expr{Op: "?"}
	}
}

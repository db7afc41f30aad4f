package fresh

import (
	"fmt"
	"testing"

	"raycone/lang"
)

// two terms with lists in lists.
func terms() []lang.Expr {
	x, one := lang.Expr{Op: "var", Name: "x"}, lang.Expr{Op: "num", N: 1}
	at := lang.Expr{Op: "at", Name: "a", L: []lang.Expr{x}}
	return []lang.Expr{{Op: "+", L: []lang.Expr{at, one}}, one}
}

// spoil all that a list of terms holds.
func spoil(l []lang.Expr) {
	for i := range l {
		spoil(l[i].L)
		l[i] = lang.Expr{Op: "?"}
	}
}

func TestTerms(t *testing.T) {
	if l := Terms(nil); len(l) != 0 {
		t.Error(l)
	}
	l := terms()
	got := Terms(l)
	want := fmt.Sprint(terms())
	if fmt.Sprint(got) != want {
		t.Error(got)
	}
	spoil(got)
	if fmt.Sprint(l) != want {
		t.Error(l)
	}
}

func TestTest(t *testing.T) {
	l := terms()
	one := lang.Test{A: l[0], Rel: "<", B: terms()[0]}
	want := fmt.Sprint(one)
	got := Test(one)
	if fmt.Sprint(got) != want {
		t.Error(got)
	}
	spoil(got.A.L)
	spoil(got.B.L)
	if fmt.Sprint(one) != want {
		t.Error(one)
	}
}

func TestCond(t *testing.T) {
	if c := Cond(nil); len(c) != 0 {
		t.Error(c)
	}
	c := lang.Cond{nil, {{A: terms()[0], Rel: "<", B: terms()[1]}, {A: terms()[1], Rel: "==", B: terms()[0]}}}
	want := fmt.Sprint(c)
	got := Cond(c)
	if fmt.Sprint(got) != want {
		t.Error(got)
	}
	spoil(got[1][0].A.L)
	spoil(got[1][1].B.L)
	got[1][0].Rel, got[0] = "?", got[1]
	if fmt.Sprint(c) != want {
		t.Error(c)
	}
}

package flow

import (
	"fmt"
	"testing"

	"raycone/api"
	"raycone/lang"
)

// Each statement is told where it stands, of a while its head; the graph is Build's.
func TestLaid(t *testing.T) {
	for main, want := range map[string]string{
		"":                               "[]",
		"x=1;read y;a[0]=2;":             "[0 1 2]",
		"assume x<1;x=1;assert x<2;x=3;": "[0 1 2 4]",
		"if x<1{x=1;x=2;}x=3;":           "[0 1 2 5]",
		"if x<1{x=1;}else{x=2;x=3;}x=4;": "[0 1 3 4 6]",
		"while x<1{x=1;x=2;}x=3;":        "[1 2 3 5]",
		"x=1;while x<1{while y<2{y=2;}}": "[0 2 4 5]",
		"x=call f(1);x=call f(2);":       "[0 1 2 3 4 5]",
	} {
		p := read(t, "var x;var y;array a[4];proc f(u){u=u+1;return u;}main{"+main+"}")
		g, from, err := Laid(p)
		if got := fmt.Sprint(from); got != want || err != nil {
			t.Errorf("%s: %s %v, want %s", main, got, err, want)
		}
		if built, _ := Build(p); told(built) != told(g) {
			t.Error(main)
		}
	}
	g, from, err := Laid(lang.Program{Main: []lang.Stmt{{Kind: "x"}}})
	if err != api.ErrShape || !isZero(g) || len(from) > 0 {
		t.Error(g, from, err)
	}
}

// A test that is turned round holds where the other one does not, and is new memory.
func TestTurned(t *testing.T) {
	l := []lang.Expr{{Op: "num", N: 3}}
	x := lang.Test{A: lang.Expr{Op: "neg", L: l}, Rel: "<", B: lang.Expr{Op: "var", Name: "x"}}
	for rel, want := range map[string]string{"<": ">=", ">=": "<", "<=": ">", ">": "<=", "==": "!=", "!=": "=="} {
		x.Rel = rel
		y := Turned(x)
		if y.Rel != want || told(y.A) != told(x.A) || told(y.B) != told(x.B) {
			t.Error(y)
		}
		y.A.L[0].N = 9
		if l[0].N != 3 || x.Rel != rel {
			t.Error(x)
		}
	}
}

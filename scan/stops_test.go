package scan

import (
	"fmt"
	"testing"

	"raycone/api"
	"raycone/flow"
	"raycone/interval"
)

// Stops of a graph: the numbers of its tests and those beside them, the least ones first, each once, no more than are worth it.
func TestStops(t *testing.T) {
	for main, want := range map[string]string{
		"":                                "[]",
		"x=5;y=x+6;":                      "[]",
		"assume x<y;":                     "[]",
		"assume x<7;":                     "[6 7 8]",
		"assume 7<x;":                     "[6 7 8]",
		"assume x<-7;":                    "[-6 -7 -8]",
		"assume x<--7;":                   "[6 7 8]",
		"assume x<0;":                     "[0 -1 1]",
		"assume x<1 and y>2;":             "[0 1 2 3]",
		"assume x+5<y*9;":                 "[4 5 6 8 9 10]",
		"assume a[3]<-(x-20);":            "[2 3 4 -19 -20 -21]",
		"assume x<1099511627776;":         "[1099511627775 1099511627776]",
		"assume -1099511627776<x;":        "[-1099511627775 -1099511627776]",
		"while x<4{x=x+100;}":             "[3 4 5]",
		"if x<4{x=1;}else{assert y==40;}": "[3 4 5 39 40 41]",
		"assume x<1 and y>11 and y>21 and y>31 and y>41 and y>51 and y>61 and y>71;": "[0 1 2 10 11 12 20 21 22 30 31 32 40 41 42 50 51 52 60 61]",
	} {
		g := built(t, "var x;var y;array a[4];main{"+main+"}")
		if got := fmt.Sprint(Stops(g)); got != want {
			t.Errorf("%s: %s, want %s", main, got, want)
		}
	}
	g := built(t, "var x;main{assume x<7;}")
	g.Vars = nil
	for _, none := range []flow.Graph{{}, g} {
		if l := Stops(none); len(l) > 0 {
			t.Error(none, l)
		}
	}
}

// What they are is taken by Scan, and may show more.
func TestStopsAreTaken(t *testing.T) {
	g := built(t, "var x;var y;main{while true{if x<100{x=x+1;}else{y=1;}}}")
	if _, err := interval.Widen(api.Interval{}, api.Interval{}, Stops(g)); err != nil {
		t.Fatal(err)
	}
	far, err1 := Scan(g, nil)
	near, err2 := Scan(g, Stops(g))
	if err1 != nil || err2 != nil || far[1].Vars[0].High == 100 || near[1].Vars[0].High != 100 {
		t.Error(far[1], near[1], err1, err2)
	}
}

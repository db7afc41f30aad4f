package machine

import (
	"fmt"
	"math"
	"math/rand"
	"slices"
	"testing"

	"raycone/api"
	"raycone/lang"
)

// A run begins with the values that it is given; with nothing but 0 it is Run.
func TestRunFrom(t *testing.T) {
	p := read(t, "var x;var y;array a[2];main{x=x+y;a[1]=a[0]+x;read y;}")
	e, err := RunFrom(p, []int{3, 4}, [][]int{{5, 6}}, []int{8}, 9)
	if got := fmt.Sprint(e); got != "{done 3 [7 8] [[5 12]]}" || err != nil {
		t.Error(got, err)
	}
	programs(t, 6, 1000, func(p lang.Program, input []int, r *rand.Rand) {
		fuel := r.Intn(100)
		e, err := RunFrom(p, make([]int, 3), [][]int{make([]int, 3)}, input, fuel)
		if want := ran(t, p, input, fuel); err != nil || told(e) != told(want) {
			t.Fatalf("%s: %v %v, want %v", told(p), e, err, want)
		}
	})
}

// A value that is too great stays as it is where no term uses it, and makes wrong what does.
func TestRunFromTooGreat(t *testing.T) {
	const over = api.MaxValue + 1
	for s, want := range map[string]string{
		"x=1;":             "done",
		"y=1;a[0]=y;":      "done",
		"assume y==0;":     "done",
		"read x;":          "done",
		"y=x;":             "wrong",
		"y=-x;":            "wrong",
		"y=x-1;":           "wrong",
		"y=x*0;":           "wrong",
		"y=0/x;":           "wrong",
		"y=x%2;":           "wrong",
		"a[x]=1;":          "wrong",
		"y=a[1];":          "wrong",
		"y=a[0];":          "done",
		"assume x!=0;":     "wrong",
		"assert a[1]!=0;":  "wrong",
		"if a[1]<0{}":      "wrong",
		"a[1]=3;y=a[1];":   "done",
		"x=3;y=x+a[0];":    "done",
		"while 0>=x{y=1;}": "wrong",
	} {
		for _, great := range []int{over, -over, math.MaxInt, math.MinInt} {
			p := read(t, "var x;var y;array a[2];main{"+s+"}")
			e, err := RunFrom(p, []int{great, 0}, [][]int{{0, great}}, []int{7}, 5)
			if e.Kind != want || err != nil {
				t.Errorf("%s %d: %v %v", s, great, e, err)
			}
		}
	}
	p := read(t, "var x;var y;main{y=1;}")
	if e, err := RunFrom(p, []int{math.MinInt, 0}, nil, nil, 5); !slices.Equal(e.Vars, []int{math.MinInt, 1}) || err != nil {
		t.Error(e, err)
	}
}

// The errors of Run, then those of the values.
func TestRunFromErrors(t *testing.T) {
	p := read(t, "var x;array a[2];main{}")
	good := [][]int{{0, 0}}
	for _, c := range []struct {
		p      lang.Program
		vars   []int
		arrays [][]int
		input  []int
		fuel   int
		want   error
	}{
		{p, []int{1}, good, nil, 0, nil},
		{lang.Program{}, nil, nil, nil, 0, nil},
		{lang.Program{}, []int{}, [][]int{}, []int{}, 0, nil},
		{p, nil, good, nil, 0, api.ErrShape},
		{p, []int{1, 2}, good, nil, 0, api.ErrShape},
		{p, []int{1}, nil, nil, 0, api.ErrShape},
		{p, []int{1}, [][]int{{0}}, nil, 0, api.ErrShape},
		{p, []int{1}, [][]int{{0, 0, 0}}, nil, 0, api.ErrShape},
		{p, []int{1}, [][]int{nil}, nil, 0, api.ErrShape},
		{p, []int{1}, [][]int{{0, 0}, {}}, nil, 0, api.ErrShape},
		{p, nil, nil, nil, -1, api.ErrBound},
		{p, nil, nil, nil, api.MaxFuel + 1, api.ErrBound},
		{p, nil, nil, []int{api.MaxValue + 1}, 0, api.ErrBound},
		{p, nil, nil, make([]int, api.MaxInput+1), 0, api.ErrBound},
		{lang.Program{Vars: []string{"x", "x"}}, nil, nil, nil, -1, api.ErrName},
		{lang.Program{Main: []lang.Stmt{{}}}, nil, nil, nil, -1, api.ErrShape},
	} {
		e, err := RunFrom(c.p, c.vars, c.arrays, c.input, c.fuel)
		if err != c.want || err != nil && told(e) != told(End{}) {
			t.Errorf("%v: %v %v", c, e, err)
		}
	}
}

// P4: the values are only read, and what is answered is new memory.
func TestRunFromIsNew(t *testing.T) {
	p := read(t, "var x;array a[2];array b[1];main{a[0]=x;}")
	vars, arrays := []int{7}, [][]int{{1, 2}, {3}}
	e, err := RunFrom(p, vars, arrays, nil, 5)
	if fmt.Sprint(e) != "{done 1 [7] [[7 2] [3]]}" || err != nil || fmt.Sprint(vars, arrays) != "[7] [[1 2] [3]]" {
		t.Error(e, err, vars, arrays)
	}
	e.Vars[0], e.Arrays[0][1], e.Arrays[1][0] = 9, 9, 9
	if fmt.Sprint(vars, arrays) != "[7] [[1 2] [3]]" {
		t.Error(vars, arrays)
	}
}

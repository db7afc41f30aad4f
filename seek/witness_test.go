package seek

import (
	"fmt"
	"math/rand"
	"slices"
	"strings"
	"testing"

	"raycone/api"
	"raycone/lang"
	"raycone/machine"
)

// sought witness of a program that is right.
func sought(t *testing.T, p lang.Program, size, fuel int) ([]int, bool) {
	t.Helper()
	l, ok, err := Witness(p, size, fuel)
	if err != nil {
		t.Fatalf("%v: %v", p, err)
	}
	return l, ok
}

// P210: the first one, with what is read, and how far it may be sought.
func TestWitness(t *testing.T) {
	for _, c := range []struct {
		main string
		size int
		want string
	}{
		{"", 4, "[] false"},
		{"assert false;", 4, "[] true"},
		{"assert true;", 4, "[] false"},
		{"assert x==0;", 4, "[] false"},
		{"assert x==1;", 0, "[] true"},
		{"assert false;read x;", 4, "[] true"},
		{"read x;assert false;", 4, "[0] true"},
		{"read x;assert false;", 0, "[0] true"},
		{"read x;assert x==0;", 0, "[] false"},
		{"read x;assert x==0;", 1, "[1] true"},
		{"read x;assert x>=0;", 1, "[-1] true"},
		{"read x;assert x<2;", 1, "[] false"},
		{"read x;assert x<2;", 2, "[2] true"},
		{"read x;assert x>-4;", 3, "[] false"},
		{"read x;assert x>-4;", 4, "[-4] true"},
		{"read x;assert x!=4;", 4, "[4] true"},
		{"read x;assert x<5;", 4, "[] false"},
		// Shorter ones are first, whatever their numbers.
		{"read x;if x!=-2{read y;}assert false;", 2, "[-2] true"},
		{"read x;if x!=0{assert x!=-2;}read y;assert y!=0;", 2, "[-2] true"},
		{"read x;if x==-1{assert false;}read y;assert false;", 2, "[-1] true"},
		// Of one length the first number counts most.
		{"read x;read y;assert x*x+y*y!=5;", 2, "[1 2] true"},
		{"read x;read y;assert x+y!=-3;", 2, "[-1 -2] true"},
		{"read x;read y;assert y-x<3;", 2, "[-1 2] true"},
		{"read x;read y;read z;assert x*100+y*10+z!=-234;", 4, "[-2 -3 -4] true"},
		{"read x;read y;read z;assert x*y*z!=8;", 4, "[1 2 4] true"},
		{"read x;read y;read z;assert x*y*z<64;", 4, "[4 4 4] true"},
		{"read x;read y;read z;read x;assert false;", 4, "[] false"},
		{"read x;read y;assert x==0;read z;read x;", 4, "[1 0] true"},
		// All of it is read; what is not read is not needed.
		{"read x;assert x<1;read y;assert y<1;", 4, "[1] true"},
		{"while y<3{read x;y=y+x;}assert false;", 4, "[3] true"},
		{"while y<5{read x;y=y+x;}assert x<2;", 4, "[1 4] true"},
		{"while x!=3{read x;y=y+1;assert y<3;}", 3, "[0 0 0] true"},
		{"while x!=3{read x;y=y+1;assert y<4;}", 3, "[] false"},
		// Other ends are no failures.
		{"read x;assume x!=2;assert x!=2;", 4, "[] false"},
		{"read x;y=1/(x-2);assert x!=2;", 4, "[] false"},
		{"y=1/0;assert false;", 4, "[] false"},
		{"read x;if x>0{y=1/0;}assert x>=0;", 4, "[-1] true"},
		{"while true{read x;assert x<4;}", 4, "[4] true"},
		{"while true{}assert false;", 4, "[] false"},
		{"x=1099511627776;assert x+1>x;", 4, "[] false"},
		{"read x;x=call f(x);assert x!=7;", 4, "[3] true"},
		{"read x;assert a[x]==0 and x!=2;", 4, "[2] true"},
	} {
		p := read(t, "var x;var y;var z;array a[3];proc f(u){return u+4;}main{"+c.main+"}")
		l, ok := sought(t, p, c.size, 200)
		if got := fmt.Sprint(l, ok); got != c.want {
			t.Errorf("%s %d: %s, want %s", c.main, c.size, got, c.want)
		}
	}
}

// P210: there is just so much fuel.
func TestWitnessFuel(t *testing.T) {
	for main, least := range map[string]int{
		"assert false;":                            1,
		"read x;assert false;":                     2,
		"x=1;x=2;if true{read x;assert x!=0;}":     5,
		"while x<10{x=x+1;}read x;assert x!=3;":    23,
		"x=call f(3);assert x!=8;":                 4,
		"while x<998{x=x+1;}x=1;x=2;assert false;": 2000,
	} {
		p := read(t, "var x;proc f(u){u=u+1;x=2;return 2*u;}main{"+main+"}")
		for _, fuel := range []int{0, 1, least - 1, least, least + 1, 2000} {
			if fuel > 2000 {
				continue
			}
			l, ok := sought(t, p, 3, fuel)
			if ok != (fuel >= least) || !ok && len(l) > 0 {
				t.Errorf("%s %d: %v %v", main, fuel, l, ok)
			}
		}
	}
	p := read(t, "var x;main{while x<998{x=x+1;}x=1;x=2;x=3;assert false;}")
	if l, ok := sought(t, p, 3, 2000); ok {
		t.Error(l)
	}
}

// P210: what is wrong, and what is told first.
func TestWitnessErrors(t *testing.T) {
	p := read(t, "var x;main{read x;assert x!=0;}")
	for _, c := range []struct {
		p          lang.Program
		size, fuel int
		want       error
	}{
		{p, 0, 0, nil},
		{p, 4, 2000, nil},
		{p, -1, 10, api.ErrBound},
		{p, 5, 10, api.ErrBound},
		{p, 1, -1, api.ErrBound},
		{p, 1, 2001, api.ErrBound},
		{p, 1 << 62, 10, api.ErrBound},
		{p, 1, -1 << 62, api.ErrBound},
		{p, -1 << 63, 1<<63 - 1, api.ErrBound},
		{lang.Program{}, 5, 0, api.ErrBound},
		{lang.Program{Main: []lang.Stmt{{Kind: "set"}}}, 5, 0, api.ErrShape},
		{lang.Program{Vars: []string{"x", "x"}}, -1, 2001, api.ErrName},
		{read(t, "main{x=1;}"), -1, 0, api.ErrName},
		{lang.Program{Arrays: []lang.Array{{Name: "a", Size: 17}}}, -1, 0, api.ErrBound},
		{read(t, "var x;proc f(u){return u;}main{x=call f();}"), -1, 0, api.ErrShape},
	} {
		l, ok, err := Witness(c.p, c.size, c.fuel)
		if err != c.want || err != nil && (ok || len(l) > 0) {
			t.Errorf("%v: %v %v %v", c, l, ok, err)
		}
	}
}

// counted program: it counts in n what it reads.
func counted(p lang.Program) lang.Program {
	n := lang.Expr{Op: "var", Name: "n"}
	more := lang.Stmt{Kind: "set", Name: "n", Args: []lang.Expr{{Op: "+", L: []lang.Expr{n, {Op: "num", N: 1}}}}}
	var in func(l []lang.Stmt) []lang.Stmt
	in = func(l []lang.Stmt) []lang.Stmt {
		var out []lang.Stmt
		for _, s := range l {
			s.Body, s.Else = in(s.Body), in(s.Else)
			out = append(out, s)
			if s.Kind == "read" {
				out = append(out, more)
			}
		}
		return out
	}
	p.Vars = append(slices.Clone(p.Vars), "n")
	p.Procs = slices.Clone(p.Procs)
	for i := range p.Procs {
		p.Procs[i].Body = in(p.Procs[i].Body)
	}
	p.Main = in(p.Main)
	return p
}

// firstByWords: the first input of all with which a run fails, all of it read.
func firstByWords(t *testing.T, p lang.Program, size, fuel int) string {
	t.Helper()
	counting := counted(p)
	for _, l := range inputsOf(size) {
		e, err := machine.Run(p, l, fuel)
		if err != nil {
			t.Fatal(err)
		}
		if e.Kind != "failed" {
			continue
		}
		c, err := machine.Run(counting, l, 2*fuel)
		if err != nil || c.Kind != "failed" {
			t.Fatal(c, err)
		}
		if c.Vars[len(p.Vars)] == len(l) {
			return fmt.Sprint(l, true)
		}
	}
	return "[] false"
}

// P210, P212: programs at random, against all inputs, one by one.
func TestWitnessRandom(t *testing.T) {
	seen := map[string]int{}
	programs(t, 1, 1500, func(p lang.Program, r *rand.Rand) {
		size, fuel := r.Intn(3), []int{r.Intn(12), 200}[r.Intn(2)]
		l, ok := sought(t, p, size, fuel)
		if got, want := fmt.Sprint(l, ok), firstByWords(t, p, size, fuel); got != want {
			text, _ := lang.Text(p)
			t.Fatalf("%s%d %d: %s, want %s", text, size, fuel, got, want)
		}
		if !ok {
			seen["none"]++
			return
		}
		seen[fmt.Sprint(len(l))]++
		if e, err := machine.Run(p, l, fuel); e.Kind != "failed" || err != nil {
			t.Fatal(p, l, e, err)
		}
	})
	for kind, least := range map[string]int{"none": 300, "0": 10, "1": 20, "2": 20, "3": 20} {
		if seen[kind] < least {
			t.Errorf("%s: %d", kind, seen[kind])
		}
	}
}

// P1: what is sought long ends.
func TestWitnessEnds(t *testing.T) {
	for _, main := range []string{
		"read x;read x;read x;while true{x=x+1;}",
		"read x;read x;read x;while x==x" + strings.Repeat("+x-x", 20) + "{}",
		"while true{read x;}",
		"x=1/0;",
	} {
		if l, ok := sought(t, read(t, "var x;main{"+main+"}"), 4, 2000); ok || len(l) > 0 {
			t.Error(main, l)
		}
	}
}

// P4: what is handed over is only read, and what is answered is new memory.
func TestWitnessIsNew(t *testing.T) {
	p := read(t, "var x;var y;main{read x;read y;assert x+y!=3;}")
	before := told(p)
	for range 3 {
		l, ok := sought(t, p, 2, 50)
		if fmt.Sprint(l, ok) != "[1 2] true" || told(p) != before {
			t.Fatal(l, ok, p)
		}
		l = l[:cap(l)]
		for i := range l {
			l[i] = 9
		}
	}
}

package seek

import (
	"fmt"
	"math/rand"
	"strings"
	"sync"
	"sync/atomic"
	"testing"
	"time"

	"raycone/api"
	"raycone/check"
	"raycone/flow"
	"raycone/lang"
	"raycone/machine"
)

// alone: the program, of whose asserts only one is left, by its number in the text: the others are assumes. How many there are is told too.
func alone(p lang.Program, left int) (lang.Program, int) {
	many := 0
	var in func(l []lang.Stmt) []lang.Stmt
	in = func(l []lang.Stmt) []lang.Stmt {
		var out []lang.Stmt
		for _, s := range l {
			if s.Kind == "assert" {
				if many != left {
					s.Kind = "assume"
				}
				many++
			}
			s.Body = in(s.Body)
			s.Else = in(s.Else)
			out = append(out, s)
		}
		return out
	}
	p.Main = in(p.Main)
	return p, many
}

// asserts of a graph that Build made, in the order of the text: the kinds of the edges of each.
func asserts(p lang.Program, l []Verdict) []string {
	kinds := map[int]string{}
	for _, v := range l {
		kinds[v.Edge] = v.Kind
	}
	_, many := alone(p, -1)
	var out []string
	for left := range many {
		// With one assert left the graph has just its edges `fail`; of an assume there are none.
		q, _ := alone(p, left)
		g, err := flow.Build(q)
		if err != nil {
			return nil
		}
		out = append(out, strings.Repeat("?", len(onFails(g))))
	}
	at := 0
	for i, marks := range out {
		var of []string
		for range marks {
			of = append(of, l[at].Kind)
			at++
		}
		out[i] = strings.Join(of, " ")
	}
	return out
}

// P212: an assert of which all edges are safe fails in no run, whatever is read; one with an edge that fails may fail.
func TestSafeNeverFails(t *testing.T) {
	seen := map[string]int{}
	programs(t, 3, 1200, func(p lang.Program, r *rand.Rand) {
		p, err := check.Inline(p)
		if err != nil || check.Check(p) != nil {
			return
		}
		l, err := Triage(p, 4)
		if err != nil {
			return
		}
		for i, kinds := range asserts(p, l) {
			q, _ := alone(p, i)
			failed := 0
			for range 40 {
				input := make([]int, r.Intn(6))
				for i := range input {
					input[i] = []int{r.Intn(5) - 2, r.Intn(5) - 2, r.Intn(41) - 20, api.MaxValue, -api.MaxValue}[r.Intn(5)]
				}
				e, err := machine.Run(q, input, 1000)
				if err != nil {
					t.Fatal(err)
				}
				if e.Kind == "failed" {
					failed++
				}
			}
			canFail := strings.Contains(kinds, "fails") || strings.Contains(kinds, "open")
			if failed > 0 && !canFail {
				text, _ := lang.Text(p)
				t.Fatalf("%s%d: %s, but failed %d", text, i, kinds, failed)
			}
			seen[fmt.Sprint(canFail, failed > 0)]++
		}
	})
	for _, kind := range []string{"true true", "true false", "false false"} {
		if seen[kind] < 30 {
			t.Error(seen)
		}
	}
}

// P2: it is the same, however many work side by side, and whatever else is asked meanwhile.
func TestWorkersAreNotSeen(t *testing.T) {
	var all sync.WaitGroup
	programs(t, 4, 60, func(p lang.Program, r *rand.Rand) {
		want, err := Triage(p, 1)
		if err != nil {
			return
		}
		for workers := 2; workers <= api.Workers; workers += 1 + r.Intn(4) {
			all.Go(func() {
				if got, err := Triage(p, workers); told(got) != told(want) || err != nil {
					t.Errorf("%v: %v %v, want %v", p, got, err, want)
				}
			})
		}
	})
	all.Wait()
}

// P4: what is handed over is only read, and what is answered is new memory.
func TestTriageIsNew(t *testing.T) {
	p := read(t, "var x;array a[2];main{read x;a[1]=x;assert a[0]==x or x<2;assert x==1;}")
	before := told(p)
	want := told(sorted(t, p, 4))
	for range 3 {
		l := sorted(t, p, 4)
		if told(l) != want || told(p) != before {
			t.Fatal(l, p)
		}
		l = l[:cap(l)]
		for i := range l {
			l[i] = Verdict{9, "9"}
		}
	}
}

// P3: a nil list and an empty one are one thing; nothing behind the lengths of lists is read, or written.
func TestBehindLengths(t *testing.T) {
	x, two := lang.Expr{Op: "var", Name: "x"}, lang.Expr{Op: "num", N: 2}
	tests := []lang.Test{{A: x, Rel: "!=", B: two}, {}}
	rows := lang.Cond{tests[:1], nil, nil}
	main := []lang.Stmt{{Kind: "read", Name: "x", Args: []lang.Expr{}}, {Kind: "assert", Cond: rows[:1], Body: []lang.Stmt{}}, {Kind: "?"}}
	vars := []string{"x", "?"}
	p := lang.Program{Vars: vars[:1], Arrays: []lang.Array{}, Procs: []lang.Proc{}, Main: main[:2]}
	before := told(main) + told(tests) + told(rows) + told(vars)
	if l, ok := sought(t, p, 2, 9); fmt.Sprint(l, ok) != "[2] true" {
		t.Error(l, ok)
	}
	if l := sorted(t, p, 2); told(l) != "[{Edge:1 Kind:fails}]" {
		t.Error(l)
	}
	if after := told(main) + told(tests) + told(rows) + told(vars); after != before {
		t.Error(after)
	}
}

// P211: of a graph that is too long for the tables walks are told all the same.
func TestTriageTooLong(t *testing.T) {
	sum := "x" + strings.Repeat("+0", 430)
	for last, want := range map[string]string{
		"x<3":         "[{1 open}]",
		"x<2":         "[{1 fails}]",
		"x<2 and x<3": "[{1 fails} {2 open}]",
		"x!=-2":       "[{1 open}]",
		"x==x":        "[{1 open}]",
	} {
		// Turned round the condition is longer by a byte for each test with <, and for each or.
		p := read(t, "var x;main{read x;assert "+sum+"<"+sum+" or "+strings.Repeat("x<-1 or ", 46)+last+";}")
		g, err := flow.Build(p)
		if err != nil || flow.Valid(g) != api.ErrShape {
			t.Fatal(err, flow.Valid(g))
		}
		if got := fmt.Sprint(sorted(t, p, 2)); got != want {
			t.Errorf("%s: %s, want %s", last, got, want)
		}
	}
}

// P1: what takes long ends.
func TestTriageEnds(t *testing.T) {
	many := strings.Repeat
	for _, main := range []string{
		"while true{assert " + many("x<1 and y<1 or ", 7) + "x>u and u<x;x=x+1;}",
		"while true{assert " + many("y<1 and x<1 or ", 6) + "x<2;if false{}}",
		"read x;read y;read z;while true{assert x<1 and y<2 or x>y and y<8 or z>5 and u<1;x=x+1;y=y+x;}",
		"read x;read y;read z;while x<y or y<z{" + many("x=x+y;y=y-z;z=x*y;assert x!=y or z<x;", 20) + "}",
		"read x;while x!=0{" + many("if x<y{y=y+1;assert y<50;}else{x=x-1;read z;}", 12) + "}",
		many("while x<y{while y<z{while z<x{z=z+1;}y=y+1;}x=x+1;assert x<9;}", 7),
		many("while x<9{while y<9{while z<9{z=z+1;}y=y+1;assert y<20;}x=x+1;assert z<20;assert x<20;}", 5),
	} {
		p := read(t, "var x;var y;var z;var u;main{"+main+"}")
		start := time.Now()
		if l := sorted(t, p, 8); len(l) == 0 {
			t.Errorf("%.60s", main)
		}
		t.Log(time.Since(start))
	}
}

// Each number is taken once, by at most so many at a time, and all is done in the end.
func TestSpread(t *testing.T) {
	for _, workers := range []int{1, 2, 7, 16} {
		for _, many := range []int{0, 1, 5, 200} {
			var now, most, done atomic.Int64
			times := make([]int, many)
			spread(workers, many, func(n int) {
				for is := now.Add(1); ; {
					was := most.Load()
					if is <= was || most.CompareAndSwap(was, is) {
						break
					}
				}
				times[n]++
				done.Add(1)
				now.Add(-1)
			})
			if done.Load() != int64(many) || now.Load() != 0 || most.Load() > int64(workers) {
				t.Error(workers, many, done.Load(), now.Load(), most.Load())
			}
			for n, is := range times {
				if is != 1 {
					t.Error(workers, many, n, is)
				}
			}
		}
	}
}

// Workers are there at once: as many as are asked for wait for each other here.
func TestSpreadIsSideBySide(t *testing.T) {
	for _, workers := range []int{1, 3, 16} {
		var all sync.WaitGroup
		all.Add(workers)
		spread(workers, workers, func(int) {
			all.Done()
			all.Wait()
		})
	}
}

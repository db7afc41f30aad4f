package plan

import (
	"fmt"
	"math/rand"
	"slices"
	"testing"

	"raycone/wide"
)

func never(wide.Row) bool { return false }

// part of a plan: what it gains, and its row.
func part(gain int, row ...int) Part { return Part{Row: wide.RowOf(row), Gain: wide.From(gain)} }

func free(gain int, row ...int) Part {
	p := part(gain, row...)
	p.Free = true
	return p
}

func wanted(l ...int) wide.Row { return wide.RowOf(l) }

func said(w wide.Row, ok bool) string {
	l, near := w.Ints()
	if !near {
		return "great"
	}
	return fmt.Sprint(l, ok)
}

func TestBest(t *testing.T) {
	for _, c := range []struct {
		p    Plan
		want string
	}{
		{Plan{}, "[1] true"},
		{Plan{nil, wanted(0, 0)}, "[1] true"},
		{Plan{nil, wanted(0, 1)}, "[] false"},
		{Plan{nil, wanted(-1)}, "[] false"},
		{Plan{[]Part{part(1)}, nil}, "[1 0] true"},
		{Plan{[]Part{part(0)}, nil}, "[0 1] true"},
		{Plan{[]Part{part(-1)}, nil}, "[0 1] true"},
		{Plan{[]Part{free(-1)}, nil}, "[-1 0] true"},
		{Plan{[]Part{part(1, 2)}, wanted(6)}, "[3 1] true"},
		{Plan{[]Part{part(1, 4)}, wanted(6)}, "[3 2] true"},
		{Plan{[]Part{part(1, 4)}, wanted(-6)}, "[] false"},
		{Plan{[]Part{part(1, -4)}, wanted(-6)}, "[3 2] true"},
		{Plan{[]Part{free(1, 4)}, wanted(-6)}, "[-3 2] true"},
		{Plan{[]Part{part(1, 2), part(3, 3)}, wanted(6)}, "[0 2 1] true"},
		{Plan{[]Part{part(5, 2), part(3, 3)}, wanted(6)}, "[3 0 1] true"},
		{Plan{[]Part{part(1, 2), part(3, 3)}, wanted(0)}, "[0 0 1] true"},
		{Plan{[]Part{part(-5, 2), part(-8, 3)}, wanted(6)}, "[3 0 1] true"},
		{Plan{[]Part{part(-5, 2), part(-7, 3)}, wanted(6)}, "[0 2 1] true"},
		// More and more of both.
		{Plan{[]Part{part(2, 1), part(-1, -1)}, wanted(6)}, "[1 1 0] true"},
		{Plan{[]Part{part(1, 1), part(-1, -1)}, wanted(6)}, "[6 0 1] true"},
		{Plan{[]Part{part(1, 1), part(-2, -1)}, wanted(6)}, "[6 0 1] true"},
		{Plan{[]Part{part(1, 2), part(0, -3)}, wanted(0)}, "[3 2 0] true"},
		{Plan{[]Part{free(1, 1), free(2, 1)}, wanted(5)}, "[-1 1 0] true"},
		{Plan{[]Part{part(0, 1, 0), part(0, 0, 1)}, wanted(3, 4)}, "[3 4 1] true"},
		{Plan{[]Part{part(0, 1, 0), part(0, 0, 1)}, wanted(3, -4)}, "[] false"},
		{Plan{[]Part{part(0, 1, 1), part(0, 1, -1)}, wanted(3, 2)}, "[5 1 2] true"},
		// Lines that say the same, and such that do not.
		{Plan{[]Part{part(0, 1, 2), part(1, 2, 4)}, wanted(3, 6)}, "[0 3 2] true"},
		{Plan{[]Part{part(0, 1, 2), part(1, 2, 4)}, wanted(3, 5)}, "[] false"},
		{Plan{[]Part{part(0, 1, 0), part(1, 2, 0)}, wanted(3, 0)}, "[0 3 2] true"},
		// The second line wants 0, and must go on to do so.
		{Plan{[]Part{part(0, 1, 0), part(1, 1, -1)}, wanted(3, 0)}, "[3 0 1] true"},
		{Plan{[]Part{part(0, 1, 0), part(1, 1, -1), part(0, 1, 1)}, wanted(4, 0)}, "[0 2 2 1] true"},
		{Plan{[]Part{part(1, -1), part(0, 1)}, wanted(0)}, "[1 1 0] true"},
	} {
		if got := said(c.p.Best(never)); got != c.want {
			t.Error(c.p, got, c.want)
		}
	}
}

// A table that comes back to itself, if of columns that come always the one that gains the most were taken (BEALE).
func TestEnds(t *testing.T) {
	p := Plan{[]Part{
		part(3, 1, 1, 0), part(-80, -32, -24, 0), part(2, -4, -1, 1), part(-24, 36, 6, 0),
		part(0, 4, 0, 0), part(0, 0, 2, 0), part(0, 0, 0, 1),
	}, wanted(0, 0, 1)}
	if got := said(p.Best(never)); got != "[4 0 4 0 3 0 0 4] true" {
		t.Error(got)
	}
}

// What is enough is taken on the way, and asked of weights that make up what is wanted.
func TestEnough(t *testing.T) {
	p := Plan{[]Part{part(1, 1), part(2, 1), part(3, 1), free(0, 2)}, wanted(2)}
	gain := func(w wide.Row) int {
		l, _ := w.Ints()
		if l[0]+l[1]+l[2]+2*l[3] != 2*l[4] {
			t.Error("not what is wanted:", l)
		}
		return l[0] + 2*l[1] + 3*l[2]
	}
	for least := range 6 {
		asked := 0
		w, ok := p.Best(func(w wide.Row) bool {
			asked++
			return gain(w) >= least
		})
		if !ok || asked == 0 || w[4].Sign() > 0 && gain(w) < least {
			t.Error(least, w, ok, asked)
		}
	}
	w, ok := p.Best(func(wide.Row) bool { return true })
	if got := said(w, ok); got != "[2 0 0 0 1] true" {
		t.Error(got)
	}
	bounded := Plan{p.Parts[:3], p.Wanted}
	if got := said(bounded.Best(never)); got != "[0 0 2 1] true" {
		t.Error(got)
	}
}

// Weights are what they are said to be, also of great numbers; and no other choice gains more.
func TestAlways(t *testing.T) {
	r := rand.New(rand.NewSource(1))
	seen := map[string]int{}
	for i := range 3000 {
		size := []int{1, 5, 1 << 31}[i%3]
		p := randomPlan(r, size)
		w, ok := p.Best(never)
		if !ok {
			seen["none"]++
			continue
		}
		checkWeights(t, p, w)
		if w[len(p.Parts)].Sign() == 0 {
			seen["endless"]++
			continue
		}
		seen["found"]++
		again := slices.Clone(p.Parts)
		slices.Reverse(again)
		other, ok := Plan{again, p.Wanted}.Best(never)
		if !ok || gainOf(Plan{again, nil}, other).Times(w[len(w)-1]).Compare(gainOf(p, w).Times(other[len(w)-1])) != 0 {
			t.Fatal(p, w, other, ok)
		}
	}
	for _, kind := range []string{"none", "endless", "found"} {
		if seen[kind] < 300 {
			t.Error(seen)
		}
	}
}

func randomPlan(r *rand.Rand, size int) Plan {
	list := func(n int) []int {
		l := make([]int, n)
		for i := range l {
			l[i] = r.Intn(2*size+1) - size
		}
		return l
	}
	height := r.Intn(4)
	p := Plan{Wanted: wide.RowOf(list(height))}
	for range r.Intn(6) {
		one := part(list(1)[0]-size/2, list(height)...)
		one.Free = r.Intn(8) == 0
		p.Parts = append(p.Parts, one)
	}
	return p
}

func gainOf(p Plan, w wide.Row) wide.Num {
	var gain wide.Num
	for i, one := range p.Parts {
		gain = gain.Plus(one.Gain.Times(w[i]))
	}
	return gain
}

func checkWeights(t *testing.T, p Plan, w wide.Row) {
	t.Helper()
	sum, den := make(wide.Row, len(p.Wanted)), w[len(p.Parts)]
	for i, one := range p.Parts {
		if w[i].Sign() < 0 && !one.Free {
			t.Fatal("a weight below 0:", p, w)
		}
		sum = sum.Sum(wide.From(1), one.Row, w[i])
	}
	rest := sum.Sum(wide.From(1), p.Wanted, den.Negated())
	if rest.Pivot() >= 0 || den.Sign() < 0 || den.Sign() == 0 && gainOf(p, w).Sign() <= 0 {
		t.Fatal("not what was wanted:", p, w)
	}
	if w.Divisor().Above(1) {
		t.Fatal("not Normal:", p, w)
	}
}

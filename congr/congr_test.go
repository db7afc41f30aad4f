package congr

import (
	"fmt"
	"math"
	"strings"
	"sync"
	"testing"

	"raycone/api"
)

const (
	most    = api.MaxBound
	over    = api.MaxBound + 1
	modest  = api.MaxModule
	modOver = api.MaxModule + 1
)

// everything: what is told where an answer would be too great, too.
var everything = c(0, 1)

func c(rest, mod int) Congr { return Congr{Rest: rest, Mod: mod} }

// only one number.
func only(n int) Congr { return c(n, 0) }

// call of two congruences, whatever it answers.
type call struct {
	name string
	of   func(a, b Congr) (Congr, bool, error)
}

func one(name string, of func(a, b Congr) (Congr, error)) call {
	return call{name, func(a, b Congr) (Congr, bool, error) {
		x, err := of(a, b)
		return x, err == nil, err
	}}
}

func within(a, b Congr) (Congr, bool, error) {
	ok, err := Within(a, b)
	return Congr{}, ok, err
}

// calls of two congruences: all that the package has.
func calls() []call {
	return []call{one("Join", Join), {"Meet", Meet}, {"Within", within}, one("Add", Add), one("Sub", Sub), one("Mul", Mul)}
}

// wanted of a call: what comes of a and b.
type wanted struct{ a, b, x Congr }

func (w wanted) check(t *testing.T, c call) {
	t.Helper()
	if x, ok, err := c.of(w.a, w.b); x != w.x || !ok || err != nil {
		t.Error(c.name, w.a, w.b, x, ok, err, "want", w.x)
	}
}

// checkBoth ways round: what comes does not hang on which is first.
func (w wanted) checkBoth(t *testing.T, c call) {
	t.Helper()
	w.check(t, c)
	wanted{w.b, w.a, w.x}.check(t, c)
}

// P70: the form, and which error comes first.
func TestValid(t *testing.T) {
	for _, w := range []struct {
		a    Congr
		want error
	}{
		{Congr{}, nil}, {only(most), nil}, {only(-most), nil}, {everything, nil}, {c(0, 2), nil}, {c(1, 2), nil}, {c(0, modest), nil}, {c(modest-1, modest), nil},
		{only(over), api.ErrBound}, {only(-over), api.ErrBound}, {only(math.MaxInt), api.ErrBound}, {only(math.MinInt), api.ErrBound},
		{c(0, -1), api.ErrBound}, {c(0, modOver), api.ErrBound}, {c(0, math.MinInt), api.ErrBound}, {c(0, math.MaxInt), api.ErrBound},
		{c(1, 1), api.ErrShape}, {c(-1, 1), api.ErrShape}, {c(3, 3), api.ErrShape}, {c(-1, 3), api.ErrShape}, {c(-3, 3), api.ErrShape}, {c(modest, modest), api.ErrShape}, {c(-1, modest), api.ErrShape},
		// A Rest beyond MaxBound is no bound of its own where there is a Mod.
		{c(over, 3), api.ErrShape}, {c(-over, 3), api.ErrShape}, {c(math.MaxInt, 3), api.ErrShape}, {c(math.MinInt, 3), api.ErrShape}, {c(math.MinInt, 1), api.ErrShape},
		// Both are wrong: ErrBound is named first.
		{c(-1, -1), api.ErrBound}, {c(9, -5), api.ErrBound}, {c(modOver, modOver), api.ErrBound}, {c(-1, modOver), api.ErrBound}, {c(math.MaxInt, math.MaxInt), api.ErrBound}, {c(math.MinInt, math.MinInt), api.ErrBound},
	} {
		if err := Valid(w.a); err != w.want {
			t.Error(w.a, err, "want", w.want)
		}
	}
}

// P71: also numbers below 0, and those of every size; what is not valid has nothing.
func TestHas(t *testing.T) {
	for _, w := range []struct {
		a    Congr
		n    int
		want bool
	}{
		{c(1, 3), 1, true}, {c(1, 3), 4, true}, {c(1, 3), 2, false}, {c(1, 3), 0, false}, {c(1, 3), -1, false}, {c(1, 3), -2, true}, {c(1, 3), -5, true}, {c(0, 3), 0, true}, {c(0, 3), -3, true},
		{only(7), 7, true}, {only(7), -7, false}, {only(7), 0, false}, {only(-7), -7, true}, {only(0), 0, true}, {only(most), most, true}, {only(most), over, false},
		{everything, 0, true}, {everything, math.MaxInt, true}, {everything, math.MinInt, true},
		{c(1, 2), math.MaxInt, true}, {c(0, 2), math.MaxInt, false}, {c(0, 2), math.MinInt, true}, {c(1, 2), math.MinInt, false}, {c(0, modest), math.MinInt, true}, {c(modest-1, modest), math.MaxInt, true}, {c(modest-1, modest), -1, true},
		{c(-2, 3), -2, false}, {c(3, 3), 3, false}, {c(3, 3), 0, false}, {c(1, 1), 1, false}, {c(0, -1), 0, false}, {c(0, -3), 3, false}, {c(0, modOver), 0, false}, {only(over), over, false}, {only(-over), -over, false},
	} {
		if got := Has(w.a, w.n); got != w.want {
			t.Error(w.a, w.n, got)
		}
	}
}

// P71: what was worked out by hand.
func TestJoin(t *testing.T) {
	for _, w := range []wanted{
		{only(3), only(7), c(3, 4)}, {only(-3), only(7), c(7, 10)}, {only(5), only(5), only(5)}, {only(5), only(6), everything}, {only(0), only(2), c(0, 2)}, {only(-most), only(-most), only(-most)},
		{c(1, 6), c(3, 4), c(1, 2)}, {c(1, 6), c(2, 4), everything}, {c(1, 6), c(1, 6), c(1, 6)}, {c(1, 6), c(4, 6), c(1, 3)}, {c(0, 4), c(0, 6), c(0, 2)}, {c(0, 4), c(0, 8), c(0, 4)},
		{c(1, 6), only(-5), c(1, 6)}, {c(1, 6), only(-2), c(1, 3)}, {c(1, 6), only(3), c(1, 2)}, {c(1, 6), everything, everything}, {only(most), c(0, modest), c(0, modest)},
		// Two numbers that are further apart than a Mod may be.
		{only(0), only(modest), c(0, modest)}, {only(1), only(modOver), c(1, modest)}, {only(0), only(modOver), everything}, {only(0), only(-2 * modest), everything}, {only(-most), only(most), everything}, {only(0), only(most), everything},
	} {
		w.checkBoth(t, one("Join", Join))
	}
}

// P71: what was worked out by hand.
func TestMeet(t *testing.T) {
	for _, w := range []wanted{
		{c(2, 4), c(4, 6), c(10, 12)}, {only(7), c(1, 3), only(7)}, {only(-5), c(1, 3), only(-5)}, {only(7), only(7), only(7)}, {only(7), everything, only(7)}, {everything, everything, everything}, {everything, c(2, 5), c(2, 5)},
		{c(2, 3), c(3, 5), c(8, 15)}, {c(0, 2), c(0, 4), c(0, 4)}, {c(1, 2), c(3, 4), c(3, 4)}, {c(1, 6), c(4, 9), c(13, 18)}, {c(1, 6), c(1, 6), c(1, 6)}, {only(most), c(0, modest), only(most)}, {only(-most), only(-most), only(-most)},
		{c(0, 1024), c(1022, 1023), c(1046528, 1047552)}, {c(1023, 1024), c(0, 3), c(1023, 3072)}, {c(0, modest), c(0, modest), c(0, modest)}, {c(5, modest), c(1, 2), c(5, modest)}, {c(0, modest/4), c(0, modest), c(0, modest)},
	} {
		w.checkBoth(t, call{"Meet", Meet})
	}
	// A Mod that would be too great: the first one is told.
	for _, w := range []wanted{
		{c(0, modest), c(0, 3), c(0, modest)}, {c(0, 3), c(0, modest), c(0, 3)}, {c(1, 3), c(2, modest), c(1, 3)}, {c(3, 1024), c(1, 1025), c(3, 1024)}, {c(1, 1025), c(3, 1024), c(1, 1025)}, {c(7, modest-1), c(8, modest), c(7, modest-1)}, {c(8, modest), c(7, modest-1), c(8, modest)},
	} {
		w.check(t, call{"Meet", Meet})
	}
}

// P3, P71: nothing in both: false, and nothing beside; also where a Mod would be too great.
func TestMeetNone(t *testing.T) {
	for _, l := range [][2]Congr{
		{c(1, 4), c(0, 2)}, {only(7), only(8)}, {only(7), only(-7)}, {only(7), c(0, 3)}, {only(-7), c(1, 3)}, {c(1, 6), c(3, 9)}, {only(-most), only(most)}, {only(most), c(1, modest)},
		{c(0, modest), c(1, modest-2)}, {c(0, modest), c(1, 6)}, {c(1, modest), c(2, modest)},
	} {
		for _, m := range [][2]Congr{l, {l[1], l[0]}} {
			if x, ok, err := Meet(m[0], m[1]); x != (Congr{}) || ok || err != nil {
				t.Error(m, x, ok, err)
			}
		}
	}
}

// P71: what was worked out by hand.
func TestWithin(t *testing.T) {
	for _, w := range []struct {
		a, b Congr
		want bool
	}{
		{c(1, 6), c(1, 3), true}, {c(4, 6), c(1, 3), true}, {c(5, 6), c(1, 3), false}, {c(1, 3), c(1, 6), false}, {c(1, 3), c(1, 3), true}, {c(1, 3), c(2, 3), false}, {c(0, 4), c(0, 6), false},
		{only(7), c(1, 3), true}, {only(-5), c(1, 3), true}, {only(-5), c(2, 3), false}, {only(7), only(7), true}, {only(7), only(-7), false}, {c(1, 3), only(1), false}, {everything, only(0), false},
		{everything, everything, true}, {c(1, 3), everything, true}, {only(most), everything, true}, {everything, c(0, 2), false}, {only(most), c(0, modest), true}, {c(0, modest), c(0, modest/2), true}, {c(0, modest/2), c(0, modest), false},
	} {
		if got, err := Within(w.a, w.b); got != w.want || err != nil {
			t.Error(w, got, err)
		}
	}
}

// P70, P72: what was worked out by hand.
func TestSums(t *testing.T) {
	for _, w := range []wanted{
		{c(1, 4), c(1, 6), c(0, 2)}, {c(1, 4), c(2, 4), c(3, 4)}, {c(3, 4), c(2, 4), c(1, 4)}, {c(1, 4), only(-3), c(2, 4)}, {only(5), only(-8), only(-3)}, {c(1, 4), c(1, 3), everything}, {c(1, 4), everything, everything},
		{only(most), only(0), only(most)}, {only(most - 1), only(1), only(most)}, {only(most), only(1), everything}, {only(most), only(most), everything}, {only(-most), only(-1), everything}, {only(-most), only(-most), everything}, {only(-most), only(most), only(0)},
		{only(most), c(modest-1, modest), c(modest-1, modest)}, {c(modest-1, modest), c(modest-1, modest), c(modest-2, modest)},
	} {
		w.checkBoth(t, one("Add", Add))
	}
	for _, w := range []wanted{
		{c(1, 4), only(3), c(2, 4)}, {only(3), c(1, 4), c(2, 4)}, {c(1, 4), c(2, 6), c(1, 2)}, {c(1, 4), c(1, 4), c(0, 4)}, {c(1, 4), c(3, 4), c(2, 4)}, {only(5), only(8), only(-3)}, {c(1, 4), c(1, 3), everything}, {everything, only(1), everything},
		{only(0), only(most), only(-most)}, {only(-1), only(most), everything}, {only(most), only(-1), everything}, {only(-most), only(most), everything}, {only(most), only(-most), everything}, {only(most), only(most), only(0)},
	} {
		w.check(t, one("Sub", Sub))
	}
}

// P70, P72: what was worked out by hand.
func TestMul(t *testing.T) {
	for _, w := range []wanted{
		{c(2, 4), c(3, 6), c(6, 12)}, {c(0, 4), c(0, 6), c(0, 24)}, {c(1, 4), c(1, 6), c(1, 2)}, {c(1, 2), c(1, 2), c(1, 2)}, {c(0, 2), everything, c(0, 2)}, {c(1, 2), everything, everything}, {everything, everything, everything},
		{only(5), only(-8), only(-40)}, {only(-5), only(-8), only(40)}, {only(5), c(1, 3), c(5, 15)}, {only(-5), c(1, 3), c(10, 15)}, {only(5), everything, c(0, 5)}, {only(0), everything, only(0)}, {only(0), c(3, modest), only(0)}, {only(0), only(-most), only(0)}, {only(1), c(3, 7), c(3, 7)}, {only(-1), c(3, 7), c(4, 7)},
		// What would be too great, just not too great, or wraps round.
		{only(modest), only(modest), only(most)}, {only(-modest), only(modest), only(-most)}, {only(modest), only(modOver), everything}, {only(-modest), only(modOver), everything}, {only(most), only(-1), only(-most)}, {only(most), only(2), everything}, {only(-most), only(-most), everything},
		{only(1 << 32), only(1 << 32), everything}, {only(1 << 31), only(1 << 32), everything}, {only(1 << 32), only(-1 << 31), everything}, {only(3 << 38), only(1 << 26), everything}, {only(most), only(1 << 24), everything},
		{only(3), c(0, modest), everything}, {only(2), c(1, modest/2), c(2, modest)}, {only(-2), c(1, modest/2), c(modest-2, modest)}, {only(most), everything, everything}, {only(modest), everything, c(0, modest)}, {only(modOver), everything, everything}, {only(most), c(1, modest), everything}, {only(-most), c(modest-1, modest), everything},
		{c(0, 1024), c(0, 1024), c(0, modest)}, {c(0, 1024), c(0, 1025), everything}, {c(0, modest), c(0, modest), everything}, {c(modest-1, modest), c(modest-1, modest), c(1, modest)}, {only(most - 1), c(1, 2), everything}, {only(most + 1 - modest), c(2, 3), everything},
	} {
		w.checkBoth(t, one("Mul", Mul))
	}
}

// P70, P72: what was worked out by hand.
func TestScale(t *testing.T) {
	for _, w := range []struct {
		a    Congr
		n    int
		want Congr
	}{
		{c(1, 3), -2, c(4, 6)}, {c(1, 3), 2, c(2, 6)}, {c(1, 3), 0, only(0)}, {c(1, 3), 1, c(1, 3)}, {c(1, 3), -1, c(2, 3)}, {c(0, 3), -1, c(0, 3)}, {only(5), 0, only(0)}, {only(5), -7, only(-35)}, {everything, 0, only(0)}, {everything, 9, c(0, 9)}, {everything, -9, c(0, 9)},
		{everything, modest, c(0, modest)}, {everything, -modest, c(0, modest)}, {c(1, 2), modest / 2, c(modest/2, modest)}, {c(1, 2), -modest / 2, c(modest/2, modest)}, {c(1, 2), modest/2 + 1, everything}, {c(1, 3), modest, everything}, {c(5, modest), 2, everything}, {c(5, modest), -modest, everything}, {c(5, modest), -1, c(modest-5, modest)},
		{only(modest), modest, only(most)}, {only(modest), -modest, only(-most)}, {only(modOver), modest, everything}, {only(-modOver), modest, everything}, {only(most), 2, everything}, {only(most), -1, only(-most)}, {only(-most), modest, everything}, {only(most), 0, only(0)},
	} {
		if x, err := Scale(w.a, w.n); x != w.want || err != nil {
			t.Error(w, x, err)
		}
	}
}

// P72: a number that is too great; what is wrong with the congruence is told ahead of it.
func TestScaleErrors(t *testing.T) {
	for _, w := range []struct {
		a    Congr
		n    int
		want error
	}{
		{only(0), modOver, api.ErrBound}, {only(0), -modOver, api.ErrBound}, {everything, math.MaxInt, api.ErrBound}, {everything, math.MinInt, api.ErrBound}, {c(3, 3), modOver, api.ErrShape}, {c(3, 3), 0, api.ErrShape}, {c(0, -1), 2, api.ErrBound}, {only(over), 0, api.ErrBound}, {only(over), math.MinInt, api.ErrBound},
	} {
		if x, err := Scale(w.a, w.n); x != (Congr{}) || err != w.want {
			t.Error(w, x, err)
		}
	}
}

func between(low, high int) api.Interval { return api.Interval{Low: low, High: high} }

func from(low int) api.Interval { return api.Interval{Up: true, Low: low} }

func to(high int) api.Interval { return api.Interval{Down: true, High: high} }

// P73: what was worked out by hand.
func TestTight(t *testing.T) {
	whole := api.Interval{Down: true, Up: true}
	for _, w := range []struct {
		a    Congr
		b, x api.Interval
	}{
		{c(1, 5), between(2, 15), between(6, 11)}, {c(1, 5), between(1, 16), between(1, 16)}, {c(1, 5), between(2, 9), between(6, 6)}, {c(1, 5), between(6, 6), between(6, 6)}, {c(1, 5), between(-9, -1), between(-9, -4)}, {c(1, 5), between(-8, 0), between(-4, -4)},
		{c(1, 5), from(2), from(6)}, {c(1, 5), from(-3), from(1)}, {c(1, 5), from(1), from(1)}, {c(1, 5), to(2), to(1)}, {c(1, 5), to(-3), to(-4)}, {c(1, 5), to(1), to(1)}, {c(1, 5), whole, whole}, {everything, between(3, 8), between(3, 8)}, {everything, whole, whole},
		{only(7), whole, between(7, 7)}, {only(7), from(7), between(7, 7)}, {only(7), to(7), between(7, 7)}, {only(-7), between(-9, 9), between(-7, -7)}, {only(most), whole, between(most, most)}, {only(-most), to(-most), between(-most, -most)},
		// The first number is beyond MaxBound, but there are more.
		{c(1, 2), from(most), from(most)}, {c(modest-1, modest), from(most), from(most)}, {c(0, 2), from(most), from(most)}, {c(0, 2), from(most - 1), from(most)}, {c(1, modest), from(most - modest + 1), from(most - modest + 1)}, {c(1, modest), from(most - modest + 2), from(most)},
		{c(1, 2), to(-most), to(-most)}, {c(modest-1, modest), to(-most), to(-most)}, {c(0, 2), to(-most), to(-most)}, {c(0, 2), to(-most + 1), to(-most)}, {c(modest-1, modest), to(-most + modest - 1), to(-most + modest - 1)}, {c(modest-1, modest), to(-most + modest - 2), to(-most)},
		{c(1, 2), between(-most, most), between(-most+1, most-1)}, {c(0, modest), between(-most, most), between(-most, most)}, {c(0, modest), between(1-most, most-1), between(modest-most, most-modest)},
	} {
		if x, ok, err := Tight(w.a, w.b); x != w.x || !ok || err != nil {
			t.Error(w, x, ok, err)
		}
	}
}

// P3, P73: nothing in both: false, and nothing beside.
func TestTightNone(t *testing.T) {
	for _, w := range []struct {
		a Congr
		b api.Interval
	}{
		{c(1, 5), between(2, 5)}, {c(1, 5), between(2, 2)}, {c(1, 5), between(-3, 0)}, {c(0, modest), between(1, modest-1)}, {only(7), from(8)}, {only(7), to(6)}, {only(7), between(-9, 6)}, {only(7), between(8, 9)}, {only(-7), between(7, 7)}, {c(1, 2), between(most, most)}, {c(1, 2), between(-most, -most)}, {c(0, 3), between(most, most)}, {c(modest-1, modest), between(most, most)},
	} {
		if x, ok, err := Tight(w.a, w.b); x != (api.Interval{}) || ok || err != nil {
			t.Error(w, x, ok, err)
		}
	}
}

// P73: what is wrong with the congruence is told ahead of what is wrong with the interval.
func TestTightErrors(t *testing.T) {
	for _, w := range []struct {
		a    Congr
		b    api.Interval
		want error
	}{
		{c(3, 3), between(1, 2), api.ErrShape}, {c(0, -1), between(1, 2), api.ErrBound}, {only(over), api.Interval{Down: true, Up: true}, api.ErrBound}, {c(1, 3), between(2, 1), api.ErrShape}, {c(1, 3), between(0, over), api.ErrBound}, {c(1, 3), from(-over), api.ErrBound}, {only(1), api.Interval{Up: true, Low: 1, High: 2}, api.ErrShape}, {everything, api.Interval{Down: true, Low: 1}, api.ErrShape},
		{c(3, 3), between(0, over), api.ErrShape}, {c(0, modOver), between(2, 1), api.ErrBound}, {c(1, 3), between(math.MinInt, math.MaxInt), api.ErrBound}, {c(1, 3), between(math.MaxInt, math.MinInt), api.ErrShape},
	} {
		if x, ok, err := Tight(w.a, w.b); x != (api.Interval{}) || ok || err != w.want {
			t.Error(w, x, ok, err)
		}
	}
}

// wild congruences: right and wrong ones, of every size.
func wild() []Congr {
	var l []Congr
	for _, rest := range []int{math.MinInt, -over, -most, -modest, -2, -1, 0, 1, 2, 6, modest - 1, modest, modOver, 1 << 32, most, over, math.MaxInt} {
		for _, mod := range []int{math.MinInt, -modest, -1, 0, 1, 2, 3, 7, 12, modest - 1, modest, modOver, most, math.MaxInt} {
			l = append(l, c(rest, mod))
		}
	}
	return l
}

// P1, P3, P70 to P72: whatever is handed over, errors are told of a ahead of b, bare and with nothing else; what is told is valid.
func TestWild(t *testing.T) {
	list := wild()
	for _, a := range list {
		for _, b := range list {
			want := Valid(a)
			if want == nil {
				want = Valid(b)
			}
			for _, c := range calls() {
				x, ok, err := c.of(a, b)
				if err != want || (err != nil || !ok) && (ok || x != Congr{}) || Valid(x) != nil {
					t.Error(c.name, a, b, x, ok, err)
				}
			}
		}
	}
}

// P2: the same answers, however many ask side by side.
func TestSideBySide(t *testing.T) {
	ask := func() string {
		var s strings.Builder
		for _, a := range wild() {
			for _, k := range calls() {
				x, ok, err := k.of(a, c(5, 12))
				fmt.Fprintln(&s, x, ok, err)
			}
			x, err := Scale(a, -3)
			y, ok, wrong := Tight(a, between(-100, 77))
			fmt.Fprintln(&s, x, err, y, ok, wrong)
		}
		return s.String()
	}
	want, got := ask(), make([]string, api.Workers)
	var all sync.WaitGroup
	for i := range got {
		all.Go(func() { got[i] = ask() })
	}
	all.Wait()
	for i := range got {
		if got[i] != want {
			t.Error("another answer beside others", i)
		}
	}
}

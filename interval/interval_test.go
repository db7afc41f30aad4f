package interval

import (
	"fmt"
	"math"
	"slices"
	"strconv"
	"strings"
	"sync"
	"testing"

	"raycone/api"
)

const (
	most = api.MaxBound
	over = api.MaxBound + 1
)

// read an interval, as 1..2, 3.. or ..-M+1, where M is MaxBound.
func read(s string) api.Interval {
	low, high, ok := strings.Cut(s, "..")
	if !ok {
		panic(s)
	}
	return api.Interval{Down: low == "", Up: high == "", Low: readNumber(low), High: readNumber(high)}
}

func readNumber(s string) int {
	if s == "" {
		return 0
	}
	sign, rest, ok := strings.Cut(s, "M")
	if !ok {
		return mustInt(s)
	}
	n := mustInt(sign+"1") * most
	if rest != "" {
		n += mustInt(rest)
	}
	return n
}

func mustInt(s string) int {
	n, err := strconv.Atoi(s)
	if err != nil {
		panic(err)
	}
	return n
}

// readSome: "none" is nothing.
func readSome(s string) (api.Interval, bool) {
	if s == "none" {
		return api.Interval{}, false
	}
	return read(s), true
}

// call of two intervals, whatever it answers.
type call struct {
	name string
	of   func(a, b api.Interval) (x, y api.Interval, ok bool, err error)
}

func one(name string, of func(a, b api.Interval) (api.Interval, error)) call {
	return call{name, func(a, b api.Interval) (x, y api.Interval, ok bool, err error) {
		x, err = of(a, b)
		return x, y, err == nil, err
	}}
}

func some(name string, of func(a, b api.Interval) (api.Interval, bool, error)) call {
	return call{name, func(a, b api.Interval) (x, y api.Interval, ok bool, err error) {
		x, ok, err = of(a, b)
		return x, y, ok, err
	}}
}

func refine(how string) call {
	return call{how, func(a, b api.Interval) (x, y api.Interval, ok bool, err error) { return Refine(a, b, how) }}
}

func widen(stops ...int) call {
	return one("Widen", func(a, b api.Interval) (api.Interval, error) { return Widen(a, b, stops) })
}

func within(a, b api.Interval) (x, y api.Interval, ok bool, err error) {
	ok, err = Within(a, b)
	return x, y, ok, err
}

// calls of two intervals: all that the package has.
func calls() []call {
	l := []call{one("Join", Join), some("Meet", Meet), {"Within", within}, one("Add", Add), one("Sub", Sub), one("Mul", Mul), some("Div", Div), some("Rem", Rem), widen(-3, 7), one("Narrow", Narrow)}
	for _, how := range hows() {
		l = append(l, refine(how))
	}
	return l
}

func hows() []string { return []string{"<", "<=", "=", "!=", ">", ">="} }

// wanted of a call: a, b, and what comes.
type wanted [3]string

func (w wanted) check(t *testing.T, c call) {
	t.Helper()
	want, is := readSome(w[2])
	if x, y, ok, err := c.of(read(w[0]), read(w[1])); x != want || y != (api.Interval{}) || ok != is || err != nil {
		t.Error(c.name, w, x, y, ok, err)
	}
}

// P60: the form, and which error comes first.
func TestValid(t *testing.T) {
	for _, c := range []struct {
		a    api.Interval
		want error
	}{
		{api.Interval{}, nil},
		{api.Interval{Down: true, Up: true}, nil},
		{api.Interval{Down: true, High: -5}, nil},
		{api.Interval{Down: true, High: most}, nil},
		{api.Interval{Down: true, High: -most}, nil},
		{api.Interval{Up: true, Low: 5}, nil},
		{api.Interval{Up: true, Low: most}, nil},
		{api.Interval{Up: true, Low: -most}, nil},
		{api.Interval{Low: -most, High: most}, nil},
		{api.Interval{Low: most, High: most}, nil},
		{api.Interval{Low: 3, High: 3}, nil},
		{api.Interval{Low: 4, High: 3}, api.ErrShape},
		{api.Interval{Low: over, High: 3}, api.ErrShape},
		{api.Interval{Low: math.MaxInt, High: math.MinInt}, api.ErrShape},
		{api.Interval{Down: true, Low: 1, High: 2}, api.ErrShape},
		{api.Interval{Down: true, Low: -1, High: 2}, api.ErrShape},
		{api.Interval{Down: true, Low: math.MinInt}, api.ErrShape},
		{api.Interval{Down: true, Low: 1, High: over}, api.ErrShape},
		{api.Interval{Up: true, Low: 1, High: 2}, api.ErrShape},
		{api.Interval{Up: true, Low: 1, High: -2}, api.ErrShape},
		{api.Interval{Up: true, Low: -over, High: 2}, api.ErrShape},
		{api.Interval{Down: true, Up: true, Low: 1}, api.ErrShape},
		{api.Interval{Down: true, Up: true, High: -1}, api.ErrShape},
		{api.Interval{Low: -over}, api.ErrBound},
		{api.Interval{High: over}, api.ErrBound},
		{api.Interval{Low: over, High: over}, api.ErrBound},
		{api.Interval{Low: -over, High: -over}, api.ErrBound},
		{api.Interval{Low: math.MinInt, High: math.MaxInt}, api.ErrBound},
		{api.Interval{Down: true, High: over}, api.ErrBound},
		{api.Interval{Down: true, High: math.MinInt}, api.ErrBound},
		{api.Interval{Up: true, Low: over}, api.ErrBound},
		{api.Interval{Up: true, Low: math.MinInt}, api.ErrBound},
	} {
		if err := Valid(c.a); err != c.want {
			t.Error(c.a, err)
		}
	}
}

// P60: what goes beyond MaxBound, both ways, and what just does not.
func TestBeyond(t *testing.T) {
	for _, w := range []wanted{
		{"M..M", "1..1", "M.."}, {"M..M", "0..1", "M.."}, {"M-1..M-1", "1..1", "M..M"}, {"0..M", "0..1", "0.."},
		{"-M..-M", "-1..-1", "..-M"}, {"-M..-M", "-1..0", "..-M"}, {"-M+1..-M+1", "-1..-1", "-M..-M"}, {"-M..0", "-1..0", "..0"},
		{"M..M", "M..M", "M.."}, {"-M..-M", "-M..-M", "..-M"}, {"-M..M", "-1..1", ".."}, {"M..", "M..", "M.."}, {"..-M", "..-M", "..-M"},
	} {
		w.check(t, one("Add", Add))
	}
	for _, w := range []wanted{
		{"M..M", "-M..-M", "M.."}, {"-M..-M", "M..M", "..-M"}, {"-M..M", "-M..M", ".."}, {"M..M", "M..M", "0..0"}, {"M..M", "..-1", "M.."},
	} {
		w.check(t, one("Sub", Sub))
	}
	for _, w := range []wanted{
		{"M..M", "M..M", "M.."}, {"-M..-M", "M..M", "..-M"}, {"-M..-M", "-M..-M", "M.."}, {"M..M", "1..1", "M..M"}, {"M..M", "-1..-1", "-M..-M"},
		{"M..M", "2..2", "M.."}, {"M..M", "-1..2", "-M.."}, {"M..M", "-2..1", "..M"}, {"-M..M", "-M..M", ".."}, {"M..M", "0..0", "0..0"},
		{"1048576..1048576", "1048576..1048576", "M..M"}, {"1048576..1048577", "1048576..1048576", "M.."}, {"1048577..1048577", "1048576..1048576", "M.."},
		{"1048576..1048576", "-1048576..-1048576", "-M..-M"}, {"1048576..1048577", "-1048576..-1048576", "..-M"},
		// These products would wrap round to 0 and to -1 << 63.
		{"4294967296..4294967296", "4294967296..4294967296", "M.."}, {"2147483648..2147483648", "4294967296..4294967296", "M.."},
	} {
		w.check(t, one("Mul", Mul))
	}
}

// P61: numbers of every size.
func TestHas(t *testing.T) {
	for _, c := range []struct {
		a    string
		n    int
		want bool
	}{
		{"2..4", 1, false}, {"2..4", 2, true}, {"2..4", 3, true}, {"2..4", 4, true}, {"2..4", 5, false},
		{"2..", 1, false}, {"2..", 2, true}, {"2..", over, true}, {"2..", math.MaxInt, true}, {"2..", math.MinInt, false},
		{"..-3", -2, false}, {"..-3", -3, true}, {"..-3", -over, true}, {"..-3", math.MinInt, true}, {"..-3", math.MaxInt, false},
		{"..", 0, true}, {"..", math.MinInt, true}, {"..", math.MaxInt, true},
		{"-M..M", most, true}, {"-M..M", over, false}, {"-M..M", -most, true}, {"-M..M", -over, false},
		// What is not valid has nothing.
		{"4..2", 3, false}, {"0..M+1", 3, false}, {"-M-1..", 3, false},
	} {
		if got := Has(read(c.a), c.n); got != c.want {
			t.Error(c, got)
		}
	}
	for _, a := range []api.Interval{{Down: true, Low: 1, High: 9}, {Up: true, Low: 1, High: 9}, {Down: true, Up: true, Low: 3}, {Low: 9, High: 1}} {
		if Has(a, 3) {
			t.Error(a)
		}
	}
}

// P61: what was worked out by hand.
func TestLattice(t *testing.T) {
	for _, w := range []wanted{
		{"1..2", "5..6", "1..6"}, {"5..6", "1..2", "1..6"}, {"1..9", "2..3", "1..9"}, {"1..2", "2..", "1.."}, {"2..", "..-3", ".."},
		{"..4", "..7", "..7"}, {"4..", "7..", "4.."}, {"0..0", "0..0", "0..0"}, {"-5..-1", "0..0", "-5..0"}, {"-M..-M", "M..M", "-M..M"},
	} {
		w.check(t, one("Join", Join))
	}
	for _, w := range []wanted{
		{"1..5", "2..", "2..5"}, {"2..", "..-3", "none"}, {"1..2", "3..4", "none"}, {"3..4", "1..2", "none"}, {"1..3", "3..4", "3..3"},
		{"..", "..", ".."}, {"..7", "..4", "..4"}, {"7..", "4..", "7.."}, {"..4", "4..", "4..4"}, {"..3", "4..", "none"}, {"..", "0..0", "0..0"},
	} {
		w.check(t, some("Meet", Meet))
	}
	for _, c := range []struct {
		a, b string
		want bool
	}{
		{"1..2", "1..2", true}, {"1..2", "0..3", true}, {"0..3", "1..2", false}, {"0..2", "1..2", false}, {"1..3", "1..2", false},
		{"1..2", "..2", true}, {"1..2", "..1", false}, {"1..2", "1..", true}, {"1..2", "2..", false}, {"1..2", "..", true},
		{"..2", "1..2", false}, {"..2", "..2", true}, {"..2", "..3", true}, {"..2", "..1", false}, {"2..", "2..M", false}, {"2..", "1..", true},
		{"2..", "3..", false}, {"..", "..", true}, {"..", "-M..", false}, {"..", "..M", false},
	} {
		if got, err := Within(read(c.a), read(c.b)); got != c.want || err != nil {
			t.Error(c, got, err)
		}
	}
}

// P62: what was worked out by hand.
func TestSums(t *testing.T) {
	for _, w := range []wanted{
		{"1..2", "3..4", "4..6"}, {"2..", "..-3", ".."}, {"2..", "1..5", "3.."}, {"..2", "-1..5", "..7"}, {"..2", "..-3", "..-1"}, {"..", "0..0", ".."},
	} {
		w.check(t, one("Add", Add))
	}
	for _, w := range []wanted{
		{"1..2", "3..4", "-3..-1"}, {"2..", "1..5", "-3.."}, {"1..5", "2..", "..3"}, {"2..", "2..", ".."}, {"2..", "..-3", "5.."}, {"..-3", "2..", "..-5"}, {"..", "0..0", ".."},
	} {
		w.check(t, one("Sub", Sub))
	}
	for _, w := range []wanted{
		{"-2..3", "-1..4", "-8..12"}, {"2..3", "4..5", "8..15"}, {"-3..-2", "4..5", "-15..-8"}, {"-3..-2", "-5..-4", "8..15"}, {"-3..2", "-5..4", "-12..15"},
		{"2..", "-1..0", "..0"}, {"2..", "..-3", "..-6"}, {"2..", "3..", "6.."}, {"..-2", "..-3", "6.."}, {"..", "0..0", "0..0"}, {"0..0", "..", "0..0"},
		{"..", "1..1", ".."}, {"0..", "0..", "0.."}, {"0..", "..0", "..0"}, {"-1..", "0..", ".."}, {"1..", "-1..1", ".."}, {"2..", "0..1", "0.."},
	} {
		w.check(t, one("Mul", Mul))
	}
}

// P62: what was worked out by hand; b on both sides of 0, too.
func TestQuotients(t *testing.T) {
	for _, w := range []wanted{
		{"-7..-7", "2..2", "-3..-3"}, {"7..7", "-2..-2", "-3..-3"}, {"-7..-7", "-2..-2", "3..3"}, {"-7..7", "2..3", "-3..3"}, {"2..", "3..3", "0.."},
		{"7..9", "2..", "0..4"}, {"5..9", "-2..-2", "-4..-2"}, {"-9..-7", "2..", "-4..0"}, {"..-3", "2..5", "..0"}, {"..-6", "2..5", "..-1"}, {"2..", "2..", "0.."},
		{"2..", "..-2", "..0"}, {"..", "7..7", ".."}, {"0..0", "..", "0..0"}, {"5..9", "0..2", "2..9"}, {"5..9", "-2..0", "-9..-2"}, {"5..9", "0..", "0..9"}, {"5..9", "..0", "-9..0"},
		{"2..", "0..0", "none"}, {"0..0", "0..0", "none"}, {"..", "0..0", "none"}, {"-M..M", "1..1", "-M..M"}, {"-M..M", "-1..-1", "-M..M"}, {"M..", "M..M", "1.."}, {"M..", "M..", "0.."},
		{"-M..-M", "-1..-1", "M..M"}, {"..-M", "M..M", "..-1"}, {"..-M", "-M..-M", "1.."},
		{"5..9", "-1..1", "-9..9"}, {"5..9", "-3..1", "-9..9"}, {"-9..2", "..", "-9..9"}, {"5..5", "-10..10", "-5..5"}, {"2..", "-1..1", ".."}, {"0..0", "-1..1", "0..0"},
	} {
		w.check(t, some("Div", Div))
	}
	for _, w := range []wanted{
		{"-7..-7", "2..2", "-1..-1"}, {"-7..-7", "-2..-2", "-1..-1"}, {"7..7", "-2..-2", "1..1"}, {"7..9", "5..5", "2..4"}, {"4..6", "5..5", "0..4"}, {"4..5", "5..5", "0..4"}, {"5..9", "5..5", "0..4"},
		{"-7..-6", "5..5", "-2..-1"}, {"-7..-6", "-5..-5", "-2..-1"}, {"-2..3", "5..5", "-2..3"}, {"-2..9", "5..5", "-2..4"}, {"-9..3", "5..5", "-4..3"}, {"..", "5..5", "-4..4"},
		{"2..", "5..5", "0..4"}, {"..-3", "5..5", "-4..0"}, {"..", "1..1", "0..0"}, {"..", "-1..-1", "0..0"}, {"0..0", "7..7", "0..0"}, {"-4..0", "7..7", "-4..0"},
		{"..", "0..0", "none"}, {"3..3", "0..0", "none"}, {"M..M", "M..M", "0..0"}, {"M..", "M..M", "0..M-1"}, {"-M..M", "M..M", "-M+1..M-1"}, {"..-M", "-M..-M", "-M+1..0"},
		// Of more than one number: no more than the sizes of both allow, and just those where all quotients are the same.
		{"3..5", "10..20", "3..5"}, {"-5..3", "-20..-10", "-5..3"}, {"3..5", "10..", "3..5"}, {"3..12", "10..", "0..12"}, {"3..", "10..", "0.."}, {"..", "..", ".."},
		{"5..5", "3..4", "1..2"}, {"-5..-5", "3..4", "-2..-1"}, {"7..9", "2..3", "0..2"}, {"7..9", "-6..6", "0..5"}, {"3..4", "-6..6", "0..4"}, {"..-1", "-6..3", "-5..0"}, {"2..", "0..1", "0..0"},
		{"2..9", "0..5", "0..4"}, {"2..9", "..0", "0..9"},
	} {
		w.check(t, some("Rem", Rem))
	}
}

// P63: what was worked out by hand.
func TestWiden(t *testing.T) {
	for _, c := range []struct {
		stops []int
		w     wanted
	}{
		{nil, wanted{"0..1", "0..9", "0.."}}, {nil, wanted{"0..1", "-9..1", "..1"}}, {nil, wanted{"0..9", "2..3", "0..9"}}, {nil, wanted{"0..1", "-1..2", ".."}}, {nil, wanted{"..", "0..0", ".."}},
		{[]int{}, wanted{"0..1", "0..2", "0.."}},
		{[]int{-5, -2, 10, 20}, wanted{"0..1", "-3..9", "-5..10"}},
		{[]int{20, -2, 10, -5}, wanted{"0..1", "-3..9", "-5..10"}},
		{[]int{10, 20, -5, -2}, wanted{"0..1", "-2..10", "-2..10"}},
		{[]int{10, 20, -5, -2}, wanted{"0..1", "-1..11", "-2..20"}},
		{[]int{10, 20, -5, -2}, wanted{"0..1", "-6..21", ".."}},
		{[]int{10, 20, -5, -2}, wanted{"0..1", "0..1", "0..1"}},
		{[]int{10, 20, -5, -2}, wanted{"0..1", "..0", "..1"}},
		{[]int{10, 20, -5, -2}, wanted{"0..1", "1..", "0.."}},
		// A stop between the old bound and the new one is none.
		{[]int{0, 3, 3, 5}, wanted{"1..2", "0..4", "0..5"}},
		{[]int{4}, wanted{"5..6", "3..7", ".."}},
		// A stop on the other side will do.
		{[]int{-4, 40}, wanted{"-9..-6", "-9..-5", "-9..-4"}},
		{[]int{most, -most}, wanted{"0..0", "-M..M", "-M..M"}}, {[]int{most, -most}, wanted{"0..0", "-7..7", "-M..M"}},
		{[]int{7, 7, -7, -7}, wanted{"0..", "-1..", "-7.."}}, {[]int{7}, wanted{"..0", "..1", "..7"}},
	} {
		c.w.check(t, widen(c.stops...))
	}
}

// P63: wrong stops; what is wrong with an interval is told ahead of them.
func TestWidenErrors(t *testing.T) {
	a, b := read("0..1"), read("0..2")
	for _, c := range []struct {
		stops []int
		want  error
	}{
		{make([]int, 20), nil}, {make([]int, 21), api.ErrBound}, {make([]int, 4000), api.ErrBound}, {[]int{most, -most}, nil}, {[]int{1, over}, api.ErrBound}, {[]int{-over, 1}, api.ErrBound},
		{[]int{math.MinInt}, api.ErrBound}, {[]int{math.MaxInt}, api.ErrBound},
	} {
		// The stops count, too, where none of them is needed.
		for _, other := range []api.Interval{a, b} {
			if x, err := Widen(a, other, c.stops); err != c.want || err != nil && x != (api.Interval{}) {
				t.Error(c, x, err)
			}
		}
		for _, l := range [][2]api.Interval{{read("2..1"), b}, {a, read("2..1")}} {
			if x, err := Widen(l[0], l[1], c.stops); err != api.ErrShape || x != (api.Interval{}) {
				t.Error(c, x, err)
			}
		}
	}
}

// P63: what was worked out by hand.
func TestNarrow(t *testing.T) {
	for _, w := range []wanted{
		{"0..", "-4..9", "0..9"}, {"..0", "-4..9", "-4..0"}, {"..", "-4..9", "-4..9"}, {"..", "..", ".."}, {"0..", "3..", "0.."}, {"..", "3..", "3.."}, {"..", "..3", "..3"},
		{"0..5", "2..3", "0..5"}, {"0..5", "7..8", "0..5"}, {"0..", "..0", "0..0"}, {"..-3", "-3..", "-3..-3"}, {"M..", "M..M", "M..M"},
	} {
		w.check(t, one("Narrow", Narrow))
	}
	for _, l := range [][2]string{{"0..", "-4..-1"}, {"..0", "1..9"}, {"..-3", "-2.."}, {"4..", "..3"}} {
		if x, err := Narrow(read(l[0]), read(l[1])); err != api.ErrEmpty || x != (api.Interval{}) {
			t.Error(l, x, err)
		}
	}
}

// P64: what was worked out by hand; none twice: there is no pair.
func TestRefine(t *testing.T) {
	for _, c := range []struct{ a, how, b, x, y string }{
		{"0..9", "<", "3..5", "0..4", "3..5"}, {"0..9", "<", "-2..5", "0..4", "1..5"}, {"3..3", "<", "3..3", "none", "none"}, {"3..3", "<", "3..4", "3..3", "4..4"}, {"5..9", "<", "0..5", "none", "none"},
		{"0..9", "<=", "3..5", "0..5", "3..5"}, {"0..9", "<=", "-2..5", "0..5", "0..5"}, {"3..3", "<=", "3..3", "3..3", "3..3"}, {"5..9", "<=", "0..5", "5..5", "5..5"}, {"5..9", "<=", "0..4", "none", "none"},
		{"0..9", "=", "5..12", "5..9", "5..9"}, {"0..4", "=", "5..12", "none", "none"}, {"..", "=", "5..", "5..", "5.."},
		{"3..9", "!=", "3..3", "4..9", "3..3"}, {"3..9", "!=", "9..9", "3..8", "9..9"}, {"3..9", "!=", "5..5", "3..9", "5..5"}, {"3..3", "!=", "3..3", "none", "none"}, {"3..3", "!=", "4..4", "3..3", "4..4"},
		{"3..3", "!=", "3..4", "3..3", "4..4"}, {"3..4", "!=", "3..4", "3..4", "3..4"}, {"3..4", "!=", "4..4", "3..3", "4..4"}, {"3..", "!=", "3..3", "4..", "3..3"}, {"..3", "!=", "3..3", "..2", "3..3"}, {"..", "!=", "3..3", "..", "3..3"},
		{"3..5", ">", "0..9", "3..5", "0..4"}, {"0..5", ">", "3..9", "4..5", "3..4"}, {"0..3", ">", "3..9", "none", "none"}, {"..", ">", "2..", "3..", "2.."},
		{"3..5", ">=", "0..9", "3..5", "0..5"}, {"0..5", ">=", "3..9", "3..5", "3..5"}, {"0..3", ">=", "3..9", "3..3", "3..3"}, {"0..2", ">=", "3..9", "none", "none"},
		{"..", "<", "..", "..", ".."}, {"..", "<", "0..0", "..-1", "0..0"}, {"0..", "<", "..", "0..", "1.."}, {"..", "!=", "..", "..", ".."},
		// A bound beyond MaxBound.
		{"M..M", "<", "M..", "M..M", "M.."}, {"..", "<", "-M..-M", "..-M", "-M..-M"}, {"..-M", "<", "-M..-M", "..-M", "-M..-M"}, {"-M..0", "<", "-M..-M", "none", "none"}, {"M..M", "<", "0..M", "none", "none"},
		{"M..", ">", "M..M", "M..", "M..M"}, {"M..", "!=", "M..M", "M..", "M..M"}, {"..-M", "!=", "-M..-M", "..-M", "-M..-M"}, {"M..M", "!=", "M..", "M..M", "M.."},
	} {
		wantX, is := readSome(c.x)
		wantY, _ := readSome(c.y)
		if x, y, ok, err := Refine(read(c.a), read(c.b), c.how); x != wantX || y != wantY || ok != is || err != nil {
			t.Error(c, x, y, ok, err)
		}
	}
}

// P64: no such how; what is wrong with an interval is told ahead of it.
func TestRefineErrors(t *testing.T) {
	good, bad := read("0..9"), read("2..1")
	for _, how := range []string{"", "==", "<>", "< ", " <", "=<", "=>", "!", "lt", "\x00", "\xff", "≤", strings.Repeat("<", 1<<16)} {
		for _, c := range []struct {
			a, b api.Interval
			want error
		}{
			{good, good, api.ErrText}, {good, read("20..30"), api.ErrText}, {bad, good, api.ErrShape}, {good, bad, api.ErrShape}, {bad, read("0..M+1"), api.ErrShape}, {read("0..M+1"), bad, api.ErrBound},
		} {
			if x, y, ok, err := Refine(c.a, c.b, how); err != c.want || ok || x != (api.Interval{}) || y != (api.Interval{}) {
				t.Errorf("%.9q %v %v %v %v", how, c, x, y, err)
			}
		}
	}
}

// wild intervals: right and wrong ones, of every size.
func wild() []api.Interval {
	var l []api.Interval
	for _, low := range []int{math.MinInt, -over, -most, -2, 0, 1, most, over, math.MaxInt} {
		for _, high := range []int{math.MinInt, -over, -most, -1, 0, 3, most, over, math.MaxInt} {
			for way := range 4 {
				l = append(l, api.Interval{Down: way&1 > 0, Up: way&2 > 0, Low: low, High: high})
			}
		}
	}
	return l
}

// P1, P3, P60 to P64: whatever is handed over, errors are told of a ahead of b, bare and with nothing else; what is told is valid.
func TestWild(t *testing.T) {
	list, all := wild(), calls()
	for _, a := range list {
		for _, b := range list {
			want := Valid(a)
			if want == nil {
				want = Valid(b)
			}
			for _, c := range all {
				checkWild(t, c, a, b, want)
			}
		}
	}
}

func checkWild(t *testing.T, c call, a, b api.Interval, want error) {
	t.Helper()
	x, y, ok, err := c.of(a, b)
	if c.name == "Narrow" && want == nil && err == api.ErrEmpty {
		want = err
	}
	switch {
	case err != want:
		t.Error(c.name, a, b, err)
	case (err != nil || !ok) && (ok || x != api.Interval{} || y != api.Interval{}):
		t.Error(c.name, a, b, x, y, ok, err)
	case Valid(x) != nil || Valid(y) != nil:
		t.Error(c.name, a, b, x, y)
	}
}

// P3, P4: the stops are only read, and none behind their length.
func TestStopsAreRead(t *testing.T) {
	whole := []int{20, -5, 10, -2, math.MaxInt, 4, -3}
	kept := slices.Clone(whole)
	x, err := Widen(read("0..1"), read("-3..3"), whole[:4])
	if x != read("-5..10") || err != nil || !slices.Equal(whole, kept) {
		t.Error(x, err, whole)
	}
}

// P2: the same answers, however many ask side by side.
func TestSideBySide(t *testing.T) {
	ask := func() string {
		var s strings.Builder
		for _, a := range wild() {
			for _, c := range calls() {
				x, y, ok, err := c.of(a, read("-2..3"))
				fmt.Fprintln(&s, x, y, ok, err)
			}
		}
		return s.String()
	}
	want, got := ask(), make([]string, api.Workers)
	var all sync.WaitGroup
	for i := range got {
		all.Go(func() { got[i] = ask() })
	}
	all.Wait()
	for i := range got {
		if got[i] != want {
			t.Error("another answer beside others", i)
		}
	}
}

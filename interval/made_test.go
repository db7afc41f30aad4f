package interval

import (
	"math/big"
	"testing"

	"raycone/api"
)

func signs() []string { return []string{"+", "-", "*", "/", "%"} }

// by a sign: what two numbers make, if they make one.
func by(x int, sign string, y int) (int, bool) {
	switch sign {
	case "+":
		return x + y, true
	case "-":
		return x - y, true
	case "*":
		return x * y, true
	}
	if y == 0 {
		return 0, false
	}
	if sign == "/" {
		return x / y, true
	}
	return x % y, true
}

// Made has all that is made and is of in, and nothing that is not of in, nor of what is told without it.
func TestMadeAlways(t *testing.T) {
	ins := []api.Interval{read(".."), read("-2..3"), read("2.."), read("..-1"), read("0..0"), read("-40..40")}
	eachPair(func(a, b api.Interval, as, bs []int) {
		for _, sign := range signs() {
			for _, in := range ins {
				var s span
				for _, x := range as {
					for _, y := range bs {
						if n, ok := by(x, sign, y); ok && Has(in, n) {
							s.take(n)
						}
					}
				}
				x, ok, err := Made(a, sign, b, in)
				if err != nil || s.some && (!ok || !Has(x, s.low) || !Has(x, s.high)) || !ok && x != (api.Interval{}) {
					t.Fatal(a, sign, b, in, x, ok, err, s)
				}
				if !ok {
					continue
				}
				if is, _ := Within(x, in); !is {
					t.Fatal(a, sign, b, in, x)
				}
			}
		}
	})
}

// What is above MaxBound is not of an interval that ends there, and what is MaxBound is.
func TestMadeGreat(t *testing.T) {
	all := read("-M..M")
	for _, c := range []struct {
		a, sign, b, want string
	}{
		{"M..M", "+", "0..0", "M..M"},
		{"M..M", "+", "1..1", "none"},
		{"M..M", "+", "0..5", "M..M"},
		{"M-3..M", "+", "2..9", "M-1..M"},
		{"-M..-M", "-", "1..1", "none"},
		{"-M..-M", "-", "0..1", "-M..-M"},
		{"M..M", "-", "-1..-1", "none"},
		{"M..M", "*", "2..3", "none"},
		{"M..M", "*", "-3..-2", "none"},
		{"M..M", "*", "-2..1", "-M..M"},
		{"1048576..1048576", "*", "1048576..1048576", "M..M"},
		{"1048577..1048577", "*", "1048576..1048576", "none"},
		{"M..", "+", "M..", "none"},
		{"..-M", "-", "1..", "none"},
		{"M..M", "/", "-1..-1", "-M..-M"},
		{"M..M", "/", "0..0", "none"},
		{"M..M", "%", "0..0", "none"},
		{"..", "+", "..", "-M..M"},
	} {
		want, is := readSome(c.want)
		if x, ok, err := Made(read(c.a), c.sign, read(c.b), all); x != want || ok != is || err != nil {
			t.Error(c, x, ok, err)
		}
	}
	list := greats()
	for _, a := range list {
		for _, b := range list {
			for sign, made := range map[string]func(z, x, y *big.Int) *big.Int{"+": (*big.Int).Add, "-": (*big.Int).Sub, "*": (*big.Int).Mul} {
				var low, high *big.Int
				for _, x := range bigEnds(a) {
					for _, y := range bigEnds(b) {
						n := made(new(big.Int), x, y)
						if low == nil || n.Cmp(low) < 0 {
							low = n
						}
						if high == nil || n.Cmp(high) > 0 {
							high = n
						}
					}
				}
				none := low.Cmp(big.NewInt(most)) > 0 || high.Cmp(big.NewInt(-most)) < 0
				if x, ok, err := Made(a, sign, b, all); ok == none || err != nil || ok && (x.Down || x.Up) {
					t.Error(a, sign, b, x, ok, err)
				}
			}
		}
	}
}

func TestMadeErrors(t *testing.T) {
	good, shape, far := read("1..2"), api.Interval{Low: 2, High: 1}, api.Interval{High: over}
	for _, c := range []struct {
		a, b, in api.Interval
		sign     string
		want     error
	}{
		{good, good, good, "+", nil},
		{shape, far, far, "?", api.ErrShape},
		{far, shape, shape, "?", api.ErrBound},
		{good, shape, far, "+", api.ErrShape},
		{good, far, shape, "+", api.ErrBound},
		{good, good, shape, "?", api.ErrShape},
		{good, good, far, "?", api.ErrBound},
		{good, good, good, "", api.ErrText},
		{good, good, good, "++", api.ErrText},
		{good, good, good, "neg", api.ErrText},
	} {
		if x, ok, err := Made(c.a, c.sign, c.b, c.in); err != c.want || err != nil && (ok || x != (api.Interval{})) {
			t.Error(c, x, ok, err)
		}
	}
}

package poly

import (
	"errors"
	"fmt"
	"math"
	"math/rand"
	"strings"
	"testing"

	"raycone/api"
)

// P34.
func TestText(t *testing.T) {
	for _, c := range []struct {
		p    api.Poly
		want string
	}{
		{poly(0), ""},
		{poly(5), ""},
		{poly(0, least(0), same(-3), least(7)), "0 >= 0\n0 = -3\n0 >= 7\n"},
		{poly(2, least(0, 0, 0)), "0 >= 0\n"},
		{poly(1, least(5, 1), least(-5, -1), same(0, 2), same(1, -2)), "x0 >= 5\n-x0 >= -5\n2 x0 = 0\n-2 x0 = 1\n"},
		{poly(3, least(1, 1, 1, 1), same(2, -1, -1, -1)), "x0 + x1 + x2 >= 1\n-x0 - x1 - x2 = 2\n"},
		{poly(3, least(1, 0, 3, -4), least(1, 10, 0, -10), least(1, 0, 0, -11)), "3 x1 - 4 x2 >= 1\n10 x0 - 10 x2 >= 1\n-11 x2 >= 1\n"},
		{poly(5, same(-most, most, -most, 0, -1, 1)), "2147483648 x0 - 2147483648 x1 - x3 + x4 = -2147483648\n"},
	} {
		got, err := Text(c.p)
		if got != c.want || err != nil {
			t.Errorf("%v: %q %v, want %q", c.p, got, err, c.want)
		}
		back, err := Read(c.p.Dim, c.want)
		if fmt.Sprint(back) != fmt.Sprint(c.p) || err != nil {
			t.Errorf("%q: %v %v, want %v", c.want, back, err, c.p)
		}
	}
}

// notText has lines that are nearly a text of a row of three variables.
func notText() []string {
	return []string{
		"", " ", "0", "x0", "5", "= 1", ">= 1", " = 1", " >= 1", "x0 =", "x0 = ", "x0 >= ", "x0 >=", "x0 1", "x0  1",
		"x0 > 1", "x0 < 1", "x0 <= 1", "x0 == 1", "x0 => 1", "x0 > = 1", "x0=1", "x0>=1", "x0 >=1", "x0>= 1",
		"x0  = 1", "x0 =  1", "x0 >=  1", "x0  >= 1", " x0 = 1", "x0 = 1 ", "x0 = 1\t", "x0\t= 1", "x0 = 1\r", "x0 = 1\x00", "\x00", "\xff = 1",
		"x0 = 01", "x0 = -01", "x0 = -0", "x0 = +1", "x0 = 1.0", "x0 = 1e3", "x0 = 0x1", "x0 = 1_0", "x0 = - 1", "x0 = --1", "x0 = x1", "x0 = 1 2", "x0 = ٣",
		"1 x0 = 1", "-1 x0 = 1", "0 x0 = 1", "-0 x0 = 1", "02 x0 = 1", "+x0 = 1", "+2 x0 = 1", "- x0 = 1", "- 2 x0 = 1", "--x0 = 1", "2x0 = 1", "2  x0 = 1", "2 * x0 = 1", "2 3 x0 = 1", "2 = 1", "-2 = 1", "x0 2 = 1",
		"x = 1", "x-1 = 1", "x00 = 1", "x01 = 1", "x+1 = 1", "x3 = 1", "x10 = 1", "X0 = 1", "y0 = 1", "x 0 = 1", "x0x1 = 1", "xx0 = 1", "x0 + x9999999999999999999 = 1",
		"x1 + x0 = 1", "x0 + x0 = 1", "x0 - x0 = 1", "x0 x1 = 1", "x0 +x1 = 1", "x0 + x1 + = 1", "+ x0 = 1", "x0 + = 1", "x0 - = 1", "x0 + -x1 = 1", "x0 + -2 x1 = 1", "x0 - -x1 = 1", "x0 -x1 = 1", "x0+x1 = 1", "x0 +  x1 = 1", "x0 + + x1 = 1", "x0 + 1 x1 = 1", "x0 + 0 x1 = 1", "x0 - 0 x1 = 1", "x0 - 1 x1 = 1", "x0 + 02 x1 = 1",
		"0 + x0 = 1", "x0 + 0 = 1", "0 + 0 = 1", "00 = 1", "-0 = 1", "0 0 = 1", "0 x0 + x1 = 1",
		"x0 = 1 = 1", "x0 >= 1 = 1", "x0 = 1 >= 1", "x0 >= 1 >= 1", "0 = 0 = 0",
		"x0 = 1000000000000000000", "x0 = -1000000000000000000", "1000000000000000000 x0 = 0", "x0 - 1000000000000000000 x1 = 0", "x0 = 1111111111111111111", "x0 = 99999999999999999999999999", "x0 = 9223372036854775807", "x0 = -9223372036854775808", "x0 = 0000000000000000001",
	}
}

// P34: the first line that is no text of a row is told.
func TestReadNoText(t *testing.T) {
	check := func(dim int, s string, at int) {
		t.Helper()
		p, err := Read(dim, s)
		var f *api.Fault
		if !errors.As(err, &f) || f.At != at || f.Err != api.ErrText || fmt.Sprint(p) != nothing {
			t.Errorf("%d %q: %v %v, want line %d", dim, s, p, err, at)
		}
	}
	for _, line := range notText() {
		check(3, line+"\n", 0)
		check(3, "x0 >= 1\n0 = 0\n"+line+"\nx0 >= 1\n", 2)
		check(3, "x2 = 1\n"+line+"\n"+line+"\n", 1)
		// Of these, more lie over the bounds too: the text is told ahead.
		check(3, "x0 = 999999999999\n"+line+"\n", 1)
		check(3, strings.Repeat("0 = 0\n", 30)+line+"\n", 30)
	}
	check(0, "x0 >= 0\n", 0)
	check(1, "x0 >= 0\nx1 >= 0\n", 1)
	check(5, "x4 >= 0\nx5 >= 0\n", 1)
	check(2, "\n", 0)
	check(2, "x0 = 1\n\n", 1)
	check(2, "x0 = 1\r\n", 0)
	// A line that lacks its end.
	check(2, "x0 = 1", 0)
	check(2, "x0 = 1\nx1 >= 2", 1)
	check(2, "x0 = 1\nx1 >", 1)
	check(2, "x0 = 1\n ", 1)
	check(0, "0", 0)
}

// P34: bounds, with no line told.
func TestReadBounds(t *testing.T) {
	line := "x0 + 100 x1 + 100 x2 >= 21474836"
	long := strings.Repeat(line+"\n", 122)[:api.MaxText]
	for _, c := range []struct {
		dim  int
		s    string
		want error
	}{
		{-1, "", api.ErrBound},
		{6, "", api.ErrBound},
		{math.MinInt, "x0 = 1", api.ErrBound},
		{math.MaxInt, "x0 = 1\n", api.ErrBound},
		{3, long + "\n", api.ErrBound},
		{3, strings.Repeat("?", 4001), api.ErrBound},
		{7, "?", api.ErrBound},
		{2, "x0 >= 2147483649\n", api.ErrBound},
		{2, "x0 = -2147483649\n", api.ErrBound},
		{2, "2147483649 x0 = 0\n", api.ErrBound},
		{2, "x0 - 2147483649 x1 = 0\n", api.ErrBound},
		{2, "x0 - 999999999999999999 x1 = 0\n", api.ErrBound},
		{2, "-999999999999999999 x0 = 0\n", api.ErrBound},
		{2, "x0 = -999999999999999999\n", api.ErrBound},
		{2, strings.Repeat("0 = 0\n", 25), api.ErrBound},
		{0, strings.Repeat("0 = 0\n", 24), nil},
		{2, "2147483648 x0 - 2147483648 x1 >= -2147483648\n", nil},
		{5, "", nil},
	} {
		p, err := Read(c.dim, c.s)
		if err != c.want || err != nil && fmt.Sprint(p) != nothing || err == nil && (p.Dim != c.dim || len(p.Rows) != strings.Count(c.s, "\n")) {
			t.Errorf("%d %.60q: %v %v, want %v", c.dim, c.s, p, err, c.want)
		}
	}
	// MaxText bytes are read, and the fault is one of a line.
	var f *api.Fault
	if _, err := Read(3, long); !errors.As(err, &f) || f.At != strings.Count(long, "\n") || f.Err != api.ErrText {
		t.Error(len(long), err)
	}
}

// P34: whatever is read has the text that was read, and each text is read.
func TestReadAtRandom(t *testing.T) {
	r := rand.New(rand.NewSource(1))
	const letters = "x0123 -+>=\n"
	var read int
	for range 20000 {
		p, size := poly(r.Intn(6)), []int{1, 2, 30, most}[r.Intn(4)]
		for range r.Intn(4) {
			row := api.Row{Eq: r.Intn(2) == 0, B: r.Intn(2*size+1) - size}
			for range p.Dim {
				row.A = append(row.A, (r.Intn(2*size+1)-size)*r.Intn(2))
			}
			p.Rows = append(p.Rows, row)
		}
		s := textOf(t, p)
		if back, err := Read(p.Dim, s); fmt.Sprint(back) != fmt.Sprint(p) || err != nil {
			t.Fatal(p, s, back, err)
		}
		b := []byte(s)
		for range min(len(b), 1+r.Intn(2)) {
			at := r.Intn(len(b))
			switch r.Intn(3) {
			case 0:
				b[at] = letters[r.Intn(len(letters))]
			case 1:
				b = append(b[:at], b[at+1:]...)
			case 2:
				b = append(b[:at], append([]byte{letters[r.Intn(len(letters))]}, b[at:]...)...)
			}
			if len(b) == 0 {
				break
			}
		}
		if got, err := Read(p.Dim, string(b)); err == nil {
			read++
			if again := textOf(t, got); again != string(b) {
				t.Fatalf("%q is read as %v, of which the text is %q", b, got, again)
			}
		}
	}
	if read < 1000 {
		t.Error("too few are read:", read)
	}
}

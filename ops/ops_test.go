package ops

import (
	"fmt"
	"math"
	"math/rand"
	"slices"
	"sync"
	"testing"

	"raycone/api"
	"raycone/poly"
)

const (
	most = api.MaxEntry
	over = api.MaxEntry + 1
)

func least(b int, a ...int) api.Row { return api.Row{A: a, B: b} }

func same(b int, a ...int) api.Row { return api.Row{Eq: true, A: a, B: b} }

func made(dim int, rows ...api.Row) api.Poly { return api.Poly{Dim: dim, Rows: rows} }

func many[T any](n int, x T) []T { return slices.Repeat([]T{x}, n) }

func readAs(t *testing.T, dim int, s string) api.Poly {
	t.Helper()
	p, err := poly.Read(dim, s)
	if err != nil {
		t.Fatal(s, err)
	}
	return p
}

// checkText holds an answer against rows of dim variables.
func checkText(t *testing.T, dim int, want string, p api.Poly, err error) {
	t.Helper()
	if err != nil || p.Dim != dim {
		t.Errorf("%v %v, want %q", p, err, want)
		return
	}
	if got, err := poly.Text(p); got != want || err != nil {
		t.Errorf("%q %v, want %q", got, err, want)
	}
}

// checkError holds an error against the one that should be told, and what comes with it against nothing.
func checkError(t *testing.T, want error, p api.Poly, err error) {
	t.Helper()
	if err != want || err != nil && fmt.Sprint(p) != "{0 []}" {
		t.Errorf("%v %v, want %v", p, err, want)
	}
}

func checkTold(t *testing.T, want string, p api.Poly, err error) {
	t.Helper()
	if want == "bound" {
		checkError(t, api.ErrBound, p, err)
		return
	}
	if got := fmt.Sprint(p); got != want || err != nil {
		t.Errorf("%v %v, want %v", got, err, want)
	}
}

// P40: what was worked out by hand.
func TestMeet(t *testing.T) {
	for _, c := range []struct {
		dim        int
		p, q, want string
	}{
		{0, "", "", ""},
		{0, "", "0 >= 1\n", "0 >= 1\n"},
		{3, "", "", ""},
		{1, "x0 >= 0\n", "-x0 >= -1\n", "-x0 >= -1\nx0 >= 0\n"},
		{1, "x0 >= 0\n", "x0 >= 1\n", "x0 >= 1\n"},
		{1, "x0 >= 0\n", "-x0 >= 0\n", "x0 = 0\n"},
		{1, "x0 >= 1\n", "-x0 >= 0\n", "0 >= 1\n"},
		{1, "2 x0 = 1\n", "4 x0 = 2\n", "2 x0 = 1\n"},
		{1, "0 >= 1\n", "x0 = 3\n", "0 >= 1\n"},
		{2, "x0 + x1 = 3\n", "x0 - x1 = 2\n", "2 x0 = 5\n2 x1 = 1\n"},
		{2, "x0 + x1 = 2\n", "x0 >= 1\n", "x0 + x1 = 2\n-x1 >= -1\n"},
		{2, "x0 >= 0\nx1 >= 0\n", "-x0 - x1 >= -1\nx0 + x1 >= -5\n", "-x0 - x1 >= -1\nx1 >= 0\nx0 >= 0\n"},
	} {
		p, q := readAs(t, c.dim, c.p), readAs(t, c.dim, c.q)
		there, err := Meet(p, q)
		checkText(t, c.dim, c.want, there, err)
		back, err := Meet(q, p)
		checkText(t, c.dim, c.want, back, err)
	}
}

// P40: what was worked out by hand.
func TestJoin(t *testing.T) {
	for _, c := range []struct {
		dim        int
		p, q, want string
	}{
		{0, "", "", ""},
		{0, "", "0 >= 1\n", ""},
		{0, "0 = 1\n", "0 >= 1\n", "0 >= 1\n"},
		{2, "0 = 1\n", "0 >= 7\n", "0 >= 1\n"},
		{1, "x0 = 0\n", "x0 = 3\n", "-x0 >= -3\nx0 >= 0\n"},
		{1, "2 x0 = 1\n", "3 x0 = 1\n", "-2 x0 >= -1\n3 x0 >= 1\n"},
		{1, "x0 >= 5\n-x0 >= -3\n", "2 x0 >= 6\nx0 >= 1\n", "x0 >= 3\n"},
		{1, "x0 >= 3\n", "x0 = 1\n", "x0 >= 1\n"},
		{1, "x0 >= 0\n", "-x0 >= 1\n", ""},
		{1, "", "x0 = 1\n", ""},
		{2, "x0 = 0\nx1 = 0\n", "x0 = 2\nx1 = 1\n", "x0 - 2 x1 = 0\n-x1 >= -1\nx1 >= 0\n"},
		{2, "x0 = 0\n", "x0 = 1\n", "-x0 >= -1\nx0 >= 0\n"},
		// The least that has both has also what lies at the edge.
		{2, "x1 = 0\n", "x0 = 0\nx1 = 1\n", "-x1 >= -1\nx1 >= 0\n"},
		{2, "x0 >= 0\nx1 >= 0\n", "x0 = -1\nx1 = -1\n", "x1 >= -1\nx0 >= -1\n"},
		{2, "x0 - x1 = 0\n", "x0 + x1 = 0\n", ""},
		{2, "x0 >= 0\nx1 >= 0\n-x0 >= -1\n-x1 >= -1\n", "x0 = 2\nx1 = 0\n", "-x0 - x1 >= -2\n-x1 >= -1\nx1 >= 0\nx0 >= 0\n"},
		{2, "x0 >= 0\nx1 = 0\n", "x0 = 0\nx1 >= 0\n", "x1 >= 0\nx0 >= 0\n"},
		{3, "x0 = 1\nx1 = 2\nx2 = 3\n", "x0 = 1\nx1 = 2\nx2 = 5\n", "x0 = 1\nx1 = 2\n-x2 >= -5\nx2 >= 3\n"},
	} {
		p, q := readAs(t, c.dim, c.p), readAs(t, c.dim, c.q)
		there, err := Join(p, q)
		checkText(t, c.dim, c.want, there, err)
		back, err := Join(q, p)
		checkText(t, c.dim, c.want, back, err)
	}
}

// P40: errors, of p ahead of q, those of the shape of both behind them.
func TestTwoErrors(t *testing.T) {
	good, bad, worse := made(1), made(1, least(0)), made(6)
	for _, c := range []struct {
		p, q api.Poly
		want error
	}{
		{good, made(2), api.ErrShape},
		{made(0), good, api.ErrShape},
		{made(2, least(1, 0, 0)), good, api.ErrShape},
		{good, bad, api.ErrShape},
		{bad, good, api.ErrShape},
		{good, worse, api.ErrBound},
		{worse, good, api.ErrBound},
		{bad, worse, api.ErrShape},
		{worse, bad, api.ErrBound},
		{worse, worse, api.ErrBound},
		{made(-1), made(-1), api.ErrBound},
		{good, made(1, many(25, least(0, 1))...), api.ErrBound},
		{made(1, many(25, least(0, 1))...), bad, api.ErrBound},
		{made(2), made(1, least(over, 1)), api.ErrBound},
		{made(1, least(0, -over)), made(2), api.ErrBound},
		{made(1, least(math.MinInt, 1)), good, api.ErrBound},
		{made(2), made(math.MinInt), api.ErrBound},
	} {
		meet, err := Meet(c.p, c.q)
		checkError(t, c.want, meet, err)
		join, err := Join(c.p, c.q)
		checkError(t, c.want, join, err)
		widened, err := Widen(c.p, c.q, nil)
		checkError(t, c.want, widened, err)
	}
}

// P41: what was worked out by hand.
func TestImage(t *testing.T) {
	for _, c := range []struct {
		dim  int
		p    string
		m    Map
		want string
	}{
		{0, "", nil, ""},
		{0, "0 >= 1\n", nil, "0 >= 1\n"},
		{2, "x0 = 4\n", Map{}, ""},
		{2, "0 = 4\n", Map{}, "0 >= 1\n"},
		{0, "", Map{{4}, {-2}}, "x0 = 4\nx1 = -2\n"},
		{0, "0 = 2\n", Map{{4}, {-2}}, "0 >= 1\n"},
		{1, "", Map{{0, 7}}, "x0 = 7\n"},
		{1, "x0 >= 1\n-x0 >= 0\n", Map{{1, 0}}, "0 >= 1\n"},
		{1, "2 x0 = 1\n", Map{{1, 1}}, "2 x0 = 3\n"},
		{1, "2 x0 = 1\n", Map{{3, 1}}, "2 x0 = 5\n"},
		{1, "x0 >= 2\n", Map{{3, 1}}, "x0 >= 7\n"},
		{1, "x0 >= 2\n", Map{{-3, 1}}, "-x0 >= 5\n"},
		{1, "x0 >= 0\n-x0 >= -1\n", Map{{1, 0}, {2, 1}}, "2 x0 - x1 = -1\n-x1 >= -3\nx1 >= 1\n"},
		{1, "x0 >= 0\n", Map{{1, 0}, {1, 0}, {0, 5}}, "x0 - x1 = 0\nx2 = 5\nx1 >= 0\n"},
		{2, "x0 >= 0\n-x0 >= -1\nx1 = 3\n", Map{{2, 1, 5}}, "-x0 >= -10\nx0 >= 8\n"},
		{2, "", Map{{1, -1, 0}}, ""},
		{2, "", Map{{1, -1, 0}, {2, -2, 3}}, "2 x0 - x1 = -3\n"},
		{2, "x0 - x1 = 0\n", Map{{1, -1, 5}}, "x0 = 5\n"},
		{2, "x0 - x1 >= 0\n", Map{{1, -1, 5}}, "x0 >= 5\n"},
		// Variables take each other's place.
		{2, "x0 >= 1\nx1 = 2\n", Map{{0, 1, 0}, {1, 0, 0}}, "x0 = 2\nx1 >= 1\n"},
		// A corner can come to lie inside.
		{2, "x0 >= 0\nx1 >= 0\n-x0 - x1 >= -1\n", Map{{1, -1, 0}}, "-x0 >= -1\nx0 >= -1\n"},
		{5, "x0 >= 0\nx1 >= 0\nx2 >= 0\nx3 >= 0\nx4 >= 0\n", Map{{1, 1, 1, 1, 1, 1}}, "x0 >= 1\n"},
	} {
		p, err := Image(readAs(t, c.dim, c.p), c.m)
		checkText(t, len(c.m), c.want, p, err)
	}
}

// P41: what was worked out by hand.
func TestBefore(t *testing.T) {
	for _, c := range []struct {
		from int
		p    string
		dim  int
		m    Map
		want string
	}{
		{0, "", 0, nil, ""},
		{0, "", 3, Map{}, ""},
		{0, "0 >= 1\n", 3, nil, "0 >= 1\n"},
		{1, "x0 >= 3\n", 0, Map{{3}}, ""},
		{1, "x0 >= 3\n", 0, Map{{2}}, "0 >= 1\n"},
		{1, "x0 = 3\n", 2, Map{{0, 0, 3}}, ""},
		{1, "x0 = 3\n", 2, Map{{0, 0, 4}}, "0 >= 1\n"},
		{1, "x0 >= 8\n", 2, Map{{2, 1, 5}}, "2 x0 + x1 >= 3\n"},
		{1, "3 x0 >= 8\n", 1, Map{{2, 1}}, "6 x0 >= 5\n"},
		{1, "x0 >= 8\n", 1, Map{{-2, 0}}, "-x0 >= 4\n"},
		{1, "0 >= 1\n", 1, Map{{1, 0}}, "0 >= 1\n"},
		{1, "x0 >= 1\n-x0 >= 0\n", 1, Map{{1, 0}}, "0 >= 1\n"},
		{2, "x0 >= 0\n-x1 >= -4\n", 1, Map{{1, 0}, {1, 0}}, "-x0 >= -4\nx0 >= 0\n"},
		{2, "x0 >= 0\n-x1 >= 0\n", 1, Map{{1, 0}, {1, 0}}, "x0 = 0\n"},
		{2, "x0 = 1\nx1 = 2\n", 2, Map{{0, 1, 0}, {1, 0, 0}}, "x0 = 2\nx1 = 1\n"},
		{2, "x0 - x1 = 1\nx0 + x1 >= 0\n", 3, Map{{1, 0, 0, 1}, {0, 1, 1, 0}}, "x0 - x1 - x2 = 0\n2 x1 + 2 x2 >= -1\n"},
	} {
		p, err := Before(readAs(t, c.from, c.p), c.dim, c.m)
		checkText(t, c.dim, c.want, p, err)
	}
}

// P41: p's errors, then the map's, its shape ahead of its numbers.
func TestMapErrors(t *testing.T) {
	two := made(2)
	for _, c := range []struct {
		p    api.Poly
		m    Map
		want error
	}{
		{two, Map{{1, 2, 3}, {most, -most, most}}, nil},
		{two, many(5, []int{1, 2, 3}), nil},
		{two, Map{{1}}, api.ErrShape},
		{two, Map{{1, 2}}, api.ErrShape},
		{two, Map{{1, 2, 3, 4}}, api.ErrShape},
		{two, Map{{1, 2, 3}, nil}, api.ErrShape},
		{made(0), Map{nil}, api.ErrShape},
		{two, many(6, []int{1, 2, 3}), api.ErrBound},
		{two, Map{{1, 2, 3}, {1, over, 3}}, api.ErrBound},
		{two, Map{{1, 2, -over}}, api.ErrBound},
		{two, Map{{math.MinInt, 2, 3}}, api.ErrBound},
		{made(2, least(1, 0, 0)), Map{{1, 2, over}}, api.ErrBound},
		// The first error that is so is told.
		{two, Map{{over, 1, 1}, {1, 2}}, api.ErrShape},
		{two, many(6, []int{1, 2}), api.ErrShape},
		{made(6), Map{{1}}, api.ErrBound},
		{made(1, least(0)), Map{{over, 0}}, api.ErrShape},
		{made(1, least(over, 0)), Map{{1}}, api.ErrBound},
		{made(-1), Map{nil}, api.ErrBound},
	} {
		p, err := Image(c.p, c.m)
		checkError(t, c.want, p, err)
	}
	wide := many(2, make([]int, 7))
	for _, c := range []struct {
		p    api.Poly
		dim  int
		m    Map
		want error
	}{
		{two, 0, Map{{1}, {2}}, nil},
		{two, 5, many(2, make([]int, 6)), nil},
		{two, 1, Map{{most, -most}, {-most, most}}, nil},
		{two, 1, Map{{1, 2}}, api.ErrShape},
		{two, 1, nil, api.ErrShape},
		{two, 1, many(3, []int{1, 2}), api.ErrShape},
		{two, 1, many(6, []int{1, 2}), api.ErrShape},
		{two, 1, Map{{1, 2}, {1}}, api.ErrShape},
		{two, 2, Map{{1, 2}, {1, 2}}, api.ErrShape},
		{made(0), 2, Map{{1, 2, 3}}, api.ErrShape},
		{two, 6, wide, api.ErrBound},
		{two, -1, Map{nil, {}}, api.ErrBound},
		{made(0), -1, nil, api.ErrBound},
		{made(0), 6, nil, api.ErrBound},
		{made(0), math.MaxInt, nil, api.ErrBound},
		{made(0), math.MinInt, nil, api.ErrBound},
		{two, 1, Map{{1, 2}, {1, over}}, api.ErrBound},
		{two, 1, Map{{1, 2}, {-over, 1}}, api.ErrBound},
		{two, 1, Map{{math.MaxInt, 2}, {math.MinInt, 1}}, api.ErrBound},
		// The first error that is so is told.
		{two, 6, wide[:1], api.ErrShape},
		{two, 6, Map{{1, 2}, {1, 2}}, api.ErrShape},
		{two, math.MaxInt, Map{{1, 2}, {1, 2}}, api.ErrShape},
		{two, math.MinInt, Map{nil, nil}, api.ErrShape},
		{two, 1, Map{{1, over}}, api.ErrShape},
		{two, 1, Map{{1, over}, {1}}, api.ErrShape},
		{made(6), 1, nil, api.ErrBound},
		{made(1, least(0)), 6, wide[:1], api.ErrShape},
		{made(1, least(over, 0)), 1, nil, api.ErrBound},
	} {
		p, err := Before(c.p, c.dim, c.m)
		checkError(t, c.want, p, err)
	}
}

// P42: what was worked out by hand.
func TestForgetAndDrop(t *testing.T) {
	for _, c := range []struct {
		dim             int
		p               string
		x               int
		forgotten, less string
	}{
		{1, "", 0, "", ""},
		{1, "x0 = 5\n", 0, "", ""},
		{1, "x0 >= 1\n-x0 >= 0\n", 0, "0 >= 1\n", "0 >= 1\n"},
		{2, "0 >= 1\n", 1, "0 >= 1\n", "0 >= 1\n"},
		{2, "x0 >= 0\n-x0 >= -1\nx1 = 3\n", 0, "x1 = 3\n", "x0 = 3\n"},
		{2, "x0 >= 0\n-x0 >= -1\nx1 = 3\n", 1, "-x0 >= -1\nx0 >= 0\n", "-x0 >= -1\nx0 >= 0\n"},
		{2, "x0 - x1 = 0\nx1 >= 2\n", 1, "x0 >= 2\n", "x0 >= 2\n"},
		{2, "x0 - x1 = 0\nx1 >= 2\n", 0, "x1 >= 2\n", "x0 >= 2\n"},
		{2, "x0 - x1 >= 0\nx1 >= 2\n", 1, "x0 >= 2\n", "x0 >= 2\n"},
		{2, "x0 - x1 >= 0\n", 1, "", ""},
		{2, "2 x0 - 3 x1 >= 0\n5 x1 >= 1\n", 1, "10 x0 >= 3\n", "10 x0 >= 3\n"},
		{3, "x0 - x1 >= 1\nx1 - x2 >= 1\n", 1, "x0 - x2 >= 2\n", "x0 - x1 >= 2\n"},
		{3, "x0 = 1\nx1 = 2\nx2 = 3\n", 1, "x0 = 1\nx2 = 3\n", "x0 = 1\nx1 = 3\n"},
		{3, "x0 + x1 + x2 = 1\nx0 >= 0\nx1 >= 0\nx2 >= 0\n", 0, "-x1 - x2 >= -1\nx2 >= 0\nx1 >= 0\n", "-x0 - x1 >= -1\nx1 >= 0\nx0 >= 0\n"},
		{3, "x0 - x2 = 1\nx1 - x2 = 2\n", 2, "x0 - x1 = -1\n", "x0 - x1 = -1\n"},
		{5, "x0 - x4 = 0\n", 4, "", ""},
	} {
		p := readAs(t, c.dim, c.p)
		forgotten, err := Forget(p, c.x)
		checkText(t, c.dim, c.forgotten, forgotten, err)
		less, err := Drop(p, c.x)
		checkText(t, c.dim-1, c.less, less, err)
	}
	for _, c := range []struct {
		p    api.Poly
		x    int
		want error
	}{
		{made(2), -1, api.ErrShape},
		{made(2), 2, api.ErrShape},
		{made(0), 0, api.ErrShape},
		{made(2, least(1, 0, 0)), 2, api.ErrShape},
		{made(5), 5, api.ErrShape},
		{made(5), math.MinInt, api.ErrShape},
		{made(5), math.MaxInt, api.ErrShape},
		{made(6), 6, api.ErrBound},
		{made(6), 0, api.ErrBound},
		{made(1, least(0)), 0, api.ErrShape},
		{made(1, least(over, 1)), 0, api.ErrBound},
		{made(1, least(over, 1)), 7, api.ErrBound},
		{made(1, many(25, least(0, 1))...), 7, api.ErrBound},
	} {
		forgotten, err := Forget(c.p, c.x)
		checkError(t, c.want, forgotten, err)
		less, err := Drop(c.p, c.x)
		checkError(t, c.want, less, err)
	}
}

// P43: what was worked out by hand.
func TestWiden(t *testing.T) {
	upTo := func(b int) api.Row { return least(-b, -1) }
	for _, c := range []struct {
		dim  int
		p, q string
		more []api.Row
		want string
	}{
		{0, "", "", nil, ""},
		{0, "0 >= 1\n", "", nil, ""},
		{0, "", "0 >= 1\n", nil, ""},
		{0, "0 >= 1\n", "0 >= 1\n", nil, "0 >= 1\n"},
		{1, "x0 >= 0\n-x0 >= -1\n", "x0 >= 0\n-x0 >= -2\n", nil, "x0 >= 0\n"},
		{1, "x0 >= 0\n-x0 >= -1\n", "x0 >= 0\n-x0 >= -1\n", nil, "-x0 >= -1\nx0 >= 0\n"},
		{1, "x0 >= 0\n-x0 >= -3\n", "2 x0 = 1\n", nil, "-x0 >= -3\nx0 >= 0\n"},
		{1, "x0 >= 0\n-x0 >= -1\n", "x0 >= -1\n-x0 >= -2\n", nil, ""},
		{1, "x0 = 0\n", "x0 >= 0\n-x0 >= -1\n", nil, "x0 >= 0\n"},
		{1, "x0 = 0\n", "x0 = -1\n", nil, "-x0 >= 0\n"},
		// Of nothing comes the other one, whatever more asks for.
		{1, "0 >= 1\n", "2 x0 >= 0\n-x0 >= -2\n", []api.Row{upTo(1), upTo(9), least(-5, 1)}, "-x0 >= -2\nx0 >= 0\n"},
		{1, "2 x0 >= 0\n-x0 >= -2\n", "x0 = 1\nx0 = 2\n", []api.Row{upTo(1), upTo(9), least(-5, 1)}, "-x0 >= -2\nx0 >= 0\n"},
		{1, "0 >= 1\n", "0 = 3\n", []api.Row{upTo(1)}, "0 >= 1\n"},
		// Of more those that hold at both.
		{1, "x0 >= 0\n-x0 >= -1\n", "x0 >= 0\n-x0 >= -2\n", []api.Row{upTo(5), upTo(1)}, "-x0 >= -5\nx0 >= 0\n"},
		{1, "x0 >= 0\n-x0 >= -1\n", "x0 >= 0\n-x0 >= -2\n", []api.Row{upTo(5), upTo(2), upTo(3)}, "-x0 >= -2\nx0 >= 0\n"},
		{1, "x0 >= 0\n-x0 >= -2\n", "x0 >= -1\n-x0 >= -1\n", []api.Row{upTo(1), least(-1, 1)}, "-x0 >= -2\nx0 >= -1\n"},
		{1, "x0 = 0\n", "x0 = 1\n", []api.Row{same(0, 1), same(1, 1)}, "x0 >= 0\n"},
		{2, "x0 = 0\nx1 = 0\n", "x0 = 1\nx1 = 1\n", nil, "x1 >= 0\nx0 >= 0\n"},
		{2, "x0 = 0\nx1 = 0\n", "x0 = 1\nx1 = 1\n", []api.Row{same(0, 1, -1)}, "x0 - x1 = 0\nx1 >= 0\n"},
		{2, "x0 = 0\nx1 = 0\n", "x0 = 1\nx1 = 1\n", []api.Row{least(0, 1, -1), least(0, -2, 2)}, "x0 - x1 = 0\nx1 >= 0\n"},
		{2, "x0 = 0\nx1 = 0\n", "x0 = 1\nx1 = 1\n", []api.Row{same(0, 1, -1), same(0, 0, 0), least(-7, 0, 0), least(1, 0, 0)}, "x0 - x1 = 0\nx1 >= 0\n"},
		// The rows are those of the form: not those that were handed over.
		{2, "x0 = 0\nx1 >= 0\nx0 + x1 >= 0\n", "x0 = 1\nx1 = -1\n", nil, "x0 >= 0\n"},
		{2, "x0 >= 0\n-x0 >= 0\nx1 = 5\n", "x0 = 0\nx1 >= 5\n", nil, "x0 = 0\nx1 >= 5\n"},
		{2, "x0 - x1 = 0\nx0 >= 0\n", "x0 - x1 >= 0\nx1 >= -1\n", nil, "x0 - x1 >= 0\n"},
		// Rays and lines of the other one count.
		{2, "x0 >= 0\nx1 >= 0\n", "x0 = 3\nx1 >= 3\n", nil, "x1 >= 0\nx0 >= 0\n"},
		{2, "x0 >= 0\nx1 >= 0\n", "x0 = 3\n", nil, "x0 >= 0\n"},
		{2, "x0 >= 0\nx1 >= 0\n", "x0 - x1 = 0\n", nil, ""},
	} {
		p, err := Widen(readAs(t, c.dim, c.p), readAs(t, c.dim, c.q), c.more)
		checkText(t, c.dim, c.want, p, err)
	}
	for _, c := range []struct {
		p, q api.Poly
		more []api.Row
		want error
	}{
		{made(1), made(1), many(24, least(-most, most)), nil},
		{made(1), made(1), []api.Row{least(0)}, api.ErrShape},
		{made(1), made(1), []api.Row{least(0, 1), least(0, 1, 2)}, api.ErrShape},
		{made(1), made(1), many(25, least(0, 1)), api.ErrBound},
		{made(1), made(1), many(25, least(0)), api.ErrBound},
		{made(1), made(1), []api.Row{least(over, 1)}, api.ErrBound},
		{made(1), made(1), []api.Row{same(0, -over)}, api.ErrBound},
		{made(1), made(1), []api.Row{least(0, over), least(0)}, api.ErrShape},
		// Also where more is not asked.
		{made(1, least(1, 0)), made(1), []api.Row{least(0)}, api.ErrShape},
		{made(1), made(1, least(1, 0)), []api.Row{least(over, 1)}, api.ErrBound},
		// The first error that is so is told.
		{made(6), made(1, least(0)), []api.Row{least(0)}, api.ErrBound},
		{made(1), made(1, least(0)), []api.Row{least(over, 1)}, api.ErrShape},
		{made(1), made(2), []api.Row{least(over, 1)}, api.ErrBound},
		{made(1), made(2), []api.Row{least(0, 1)}, api.ErrShape},
	} {
		p, err := Widen(c.p, c.q, c.more)
		checkError(t, c.want, p, err)
	}
}

// What comes has numbers up to MaxTold, and none above it; what lies between has any.
func TestGreat(t *testing.T) {
	meet := func(p, q api.Poly) func() (api.Poly, error) { return func() (api.Poly, error) { return Meet(p, q) } }
	join := func(p, q api.Poly) func() (api.Poly, error) { return func() (api.Poly, error) { return Join(p, q) } }
	drop := func(p api.Poly, x int) func() (api.Poly, error) {
		return func() (api.Poly, error) { return Drop(p, x) }
	}
	forget := func(p api.Poly, x int) func() (api.Poly, error) {
		return func() (api.Poly, error) { return Forget(p, x) }
	}
	image := func(p api.Poly, m Map) func() (api.Poly, error) {
		return func() (api.Poly, error) { return Image(p, m) }
	}
	before := func(p api.Poly, m Map) func() (api.Poly, error) {
		return func() (api.Poly, error) { return Before(p, len(m[0])-1, m) }
	}
	widen := func(p, q api.Poly, more ...api.Row) func() (api.Poly, error) {
		return func() (api.Poly, error) { return Widen(p, q, more) }
	}
	// The form of steep has a number above MaxTold.
	steep, none := made(2, same(0, most, -1), least(1, 1, most)), made(2, least(1, 0, 0))
	for i, c := range []struct {
		call func() (api.Poly, error)
		want string
	}{
		{meet(made(2, same(1, most, 0)), made(2, least(0, 1, most))), "{2 [{true [2147483648 0] 1} {false [0 4611686018427387904] -1}]}"},
		{meet(made(2, same(0, most, -1)), made(2, least(1, 1, most))), "bound"},
		{meet(made(2, same(0, most, 1)), made(2, least(1, 1, most))), "{2 [{true [2147483648 1] 0} {false [0 4611686018427387903] 2147483648}]}"},
		{meet(steep, none), "{2 [{false [0 0] 1}]}"},
		{meet(steep, made(2, same(0, 0, 1))), "{2 [{false [0 0] 1}]}"},
		{join(steep, made(2)), "{2 []}"},
		{join(steep, none), "bound"},
		{join(none, steep), "bound"},
		{join(steep, steep), "bound"},
		{join(made(2, same(1, most, 0), same(0, 0, 1)), made(2, same(most, 1, 0), same(most, 0, 1))), "{2 [{true [4611686018427387904 -4611686018427387903] 2147483648} {false [0 -1] -2147483648} {false [0 1] 0}]}"},
		{join(made(2, same(-1, most, 0), same(0, 0, 1)), made(2, same(most, 1, 0), same(most, 0, 1))), "bound"},
		{drop(made(2, least(0, most, -1), least(1, 0, most)), 1), "{1 [{false [4611686018427387904] 1}]}"},
		{drop(made(2, least(0, 1, most), least(1, most, -1)), 1), "bound"},
		{forget(made(2, least(0, most, -1), least(1, 0, most)), 1), "{2 [{false [4611686018427387904 0] 1}]}"},
		{forget(made(2, least(0, 1, most), least(1, most, -1)), 1), "bound"},
		{drop(steep, 0), "bound"},
		{image(made(1, same(most, 1)), Map{{most, 0}}), "{1 [{true [1] 4611686018427387904}]}"},
		{image(made(1, same(most, 1)), Map{{most, 1}}), "bound"},
		{image(made(1, same(-most, 1)), Map{{most, -1}}), "bound"},
		{image(made(1, same(most, 1)), Map{{most, -1}}), "{1 [{true [1] 4611686018427387903}]}"},
		{image(steep, Map{{0, 0, most}}), "{1 [{true [1] 2147483648}]}"},
		{before(made(1, least(1, most)), Map{{most, 0}}), "{1 [{false [4611686018427387904] 1}]}"},
		{before(made(2, least(1, most, 1)), Map{{most, 0}, {1, 0}}), "bound"},
		{before(made(2, least(0, most, 1)), Map{{most, 0}, {1, 0}}), "{1 [{false [1] 0}]}"},
		{before(made(5, least(0, most, most, most, most, most)), Map{{most, 0}, {most, 0}, {most, 0}, {most, 0}, {most, 1}}), "{1 [{false [10737418240] -1}]}"},
		{before(steep, Map{{0, 1}, {0, most}}), "{1 []}"},
		{before(steep, Map{{0, 1}, {0, 1}}), "{1 [{false [0] 1}]}"},
		{widen(steep, made(2)), "{2 []}"},
		{widen(steep, none), "bound"},
		{widen(none, steep), "bound"},
		{widen(steep, steep), "bound"},
		{widen(made(2, same(0, most, -1), least(5, 1, 0)), made(2, same(0, most, -1), least(3, 1, 0)), least(1, 1, most)), "bound"},
		{widen(made(2, same(0, most, 1), least(5, -1, 0)), made(2, same(0, most, 1), least(3, -1, 0)), least(1, 1, most)), "{2 [{true [2147483648 1] 0} {false [0 4611686018427387903] 2147483648}]}"},
	} {
		p, err := c.call()
		t.Run(fmt.Sprint(i), func(t *testing.T) { checkTold(t, c.want, p, err) })
	}
}

// polygon of n edges in the variables at and at + 1, around 0: rows that touch a parabola, and a lid.
func polygon(n, dim, at int) []api.Row {
	var l []api.Row
	for i := range n - 1 {
		x := 2*i - n + 2
		r := least(-x*x-1, make([]int, dim)...)
		r.A[at], r.A[at+1] = -2*x, 1
		l = append(l, r)
	}
	lid := least(-10000, make([]int, dim)...)
	lid.A[at+1] = -1
	return append(l, lid)
}

// flat: the variables are 0.
func flat(dim int, variables ...int) []api.Row {
	var l []api.Row
	for _, x := range variables {
		r := same(0, make([]int, dim)...)
		r.A[x] = 1
		l = append(l, r)
	}
	return l
}

// crossing polygons, in two variables each: of both, each pair of edges makes a row.
func crossing(n, m, dim int, more ...api.Row) (p, q api.Poly) {
	return made(dim, slices.Concat(polygon(n, dim, 0), flat(dim, 2, 3), more)...), made(dim, slices.Concat(polygon(m, dim, 2), flat(dim, 0, 1), more)...)
}

// between: a number between what the first four ask by n rows from below, and by m rows from above. Without it, each pair of them is a row.
func between(n, m int) api.Poly {
	p := made(5)
	for _, r := range polygon(n, 5, 0) {
		r.A[4], r.B = -r.B, 0
		p.Rows = append(p.Rows, r)
	}
	for _, r := range polygon(m, 5, 2) {
		r.A[4] = r.B
		p.Rows = append(p.Rows, r)
	}
	return p
}

// What comes has MaxMany rows, and no more.
func TestMany(t *testing.T) {
	check := func(name string, n int, p api.Poly, err error) {
		t.Helper()
		want := error(nil)
		if n > api.MaxMany {
			n, want = 0, api.ErrBound
		}
		if len(p.Rows) != n || err != want {
			t.Error(name, n, len(p.Rows), err)
		}
	}
	above := least(0, 0, 0, 0, 0, 1)
	for _, c := range []struct {
		n, m, dim int
		more      []api.Row
		want      int
	}{
		{3, 3, 4, nil, 9},
		{6, 10, 4, nil, 60},
		{7, 9, 4, nil, 63},
		{20, 20, 4, nil, 400},
		{6, 10, 5, nil, 60},
		{6, 10, 5, []api.Row{above}, 61},
		{6, 10, 5, flat(5, 4), 61},
		{3, 19, 5, flat(5, 4), 58},
	} {
		p, q := crossing(c.n, c.m, c.dim, c.more...)
		join, err := Join(p, q)
		check("join", c.want, join, err)
	}
	id := Map{{1, 0, 0, 0, 0, 0}, {0, 1, 0, 0, 0, 0}, {0, 0, 1, 0, 0, 0}, {0, 0, 0, 1, 0, 0}, {0, 0, 0, 0, 0, 8}}
	for _, c := range []struct{ n, m int }{{3, 3}, {3, 19}, {6, 10}, {7, 9}, {12, 12}} {
		p, all := between(c.n, c.m), c.n*c.m
		less, err := Drop(p, 4)
		check("drop", all, less, err)
		forgotten, err := Forget(p, 4)
		check("forget", all, forgotten, err)
		image, err := Image(p, id[:4])
		check("image", all, image, err)
		image, err = Image(p, id)
		check("image with another number", all+1, image, err)
	}
	even, odd := made(2), made(2)
	for i, r := range polygon(47, 2, 0) {
		if i%2 == 0 {
			even.Rows = append(even.Rows, r)
		} else {
			odd.Rows = append(odd.Rows, r)
		}
	}
	// More rows come than may be handed in.
	meet, err := Meet(even, odd)
	check("meet", 47, meet, err)
	// All rows are left but the lid; others touch a curve above it.
	var more []api.Row
	for x := range 24 {
		more = append(more, least(-x*x-30000, -2*x, -1))
	}
	widened, err := Widen(made(2, polygon(24, 2, 0)...), made(2, same(0, 1, 0), same(20000, 0, 1)), more)
	check("widen", 47, widened, err)
}

// P1: calls end also with as many rows and as great numbers as may be handed in: thousands of rows would come.
func TestEnds(t *testing.T) {
	r := rand.New(rand.NewSource(11))
	round := func() api.Poly {
		p := made(5)
		for range 24 {
			row := least(-most, make([]int, 5)...)
			for i := range row.A {
				row.A[i] = r.Intn(2*most) - most
			}
			p.Rows = append(p.Rows, row)
		}
		return p
	}
	p, q, m := round(), round(), make(Map, 5)
	for i := range m {
		m[i] = []int{r.Intn(most), -r.Intn(most), r.Intn(most), -r.Intn(most), r.Intn(most), most}
	}
	join, err := Join(p, q)
	checkError(t, api.ErrBound, join, err)
	image, err := Image(p, m)
	checkError(t, api.ErrBound, image, err)
	less, err := Drop(p, 2)
	checkError(t, api.ErrBound, less, err)
	if meet, err := Meet(p, q); len(meet.Rows) < 30 || err != nil {
		t.Error(len(meet.Rows), err)
	}
	if widened, err := Widen(p, q, slices.Concat(p.Rows[:12], q.Rows[:12])); err != nil || !within(t, p, widened) {
		t.Error(widened, err)
	}
	before, err := Before(p, 5, m)
	checkError(t, api.ErrBound, before, err)
}

// P4: what is handed over is only read, also behind a list's end; what is told is new, list by list.
func TestMemory(t *testing.T) {
	wide := func(l ...int) []int { return append(make([]int, 0, 9), l...) }
	p, q := made(3, make([]api.Row, 0, 8)...), made(3, make([]api.Row, 0, 8)...)
	more := append(make([]api.Row, 0, 8), least(-9, wide(1, 0, 0)...), least(99, wide(1, 0, 0)...), same(0, wide(0, 1, -1)...))
	for i, r := range []api.Row{least(1, 2, 4, 0), least(0, -3, 0, 1), same(5, 0, 5, 5), least(-7, -1, 0, 0)} {
		r.A = wide(r.A...)
		p.Rows = append(p.Rows, r)
		if i != 2 {
			q.Rows = append(q.Rows, r)
		}
	}
	m := append(make(Map, 0, 8), wide(1, 2, 3, 4), wide(0, 1, 0, 0), wide(1, 1, 0, -1))
	given := func() string {
		text := fmt.Sprint(p, q, more, m, p.Rows[:8], q.Rows[:8], more[:8], m[:8])
		for _, r := range slices.Concat(p.Rows, q.Rows, more) {
			text += fmt.Sprint(r.A[:9])
		}
		return text + fmt.Sprint(m[0][:9], m[1][:9])
	}
	calls := []func() (api.Poly, error){
		func() (api.Poly, error) { return Meet(p, q) },
		func() (api.Poly, error) { return Join(p, q) },
		func() (api.Poly, error) { return Image(p, m) },
		func() (api.Poly, error) { return Before(p, 3, m) },
		func() (api.Poly, error) { return Forget(p, 1) },
		func() (api.Poly, error) { return Drop(p, 1) },
		func() (api.Poly, error) { return Widen(p, q, more) },
		func() (api.Poly, error) { return Widen(p, made(3, least(1, 0, 0, 0)), more) },
		func() (api.Poly, error) { return Widen(made(3, least(1, 0, 0, 0)), p, more) },
		func() (api.Poly, error) { return Forget(made(3, least(1, 0, 0, 0)), 1) },
	}
	tell := func() (l []api.Poly) {
		for _, call := range calls {
			told, err := call()
			if err != nil || len(told.Rows) == 0 {
				t.Error(told, err)
			}
			l = append(l, told)
		}
		return l
	}
	was := given()
	answers := tell()
	want := fmt.Sprint(answers)
	var lists [][]int
	for _, told := range answers {
		for _, r := range told.Rows {
			lists = append(lists, r.A)
		}
	}
	checkApart(t, lists)
	if is := given(); is != was {
		t.Error(was, is)
	}
	if again := fmt.Sprint(tell()); again != want {
		t.Error(again, want)
	}
}

// checkApart writes into each list, and behind it, and looks whether another one changes.
func checkApart(t *testing.T, lists [][]int) {
	t.Helper()
	for i, l := range lists {
		others := slices.Delete(slices.Clone(lists), i, i+1)
		was := fmt.Sprint(others)
		for j := range l {
			l[j] = 99
		}
		_ = append(l, 99)
		if is := fmt.Sprint(others); is != was {
			t.Error("lists share memory:", was, is)
		}
	}
}

// P2: answers do not hang on who else asks.
func TestSideBySide(t *testing.T) {
	p, q := crossing(5, 6, 4)
	ask := func() string {
		join, err := Join(p, q)
		meet, fault := Meet(p, q)
		less, lack := Drop(between(4, 5), 4)
		widened, miss := Widen(p, q, p.Rows)
		return fmt.Sprint(join, err, meet, fault, less, lack, widened, miss)
	}
	want := ask()
	got := make([]string, 8)
	var all sync.WaitGroup
	for i := range got {
		all.Go(func() { got[i] = ask() })
	}
	all.Wait()
	for _, g := range got {
		if g != want {
			t.Error(g, want)
		}
	}
}

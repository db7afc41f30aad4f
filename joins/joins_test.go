package joins

import (
	"slices"
	"strconv"
	"strings"
	"testing"

	"raycone/api"
	"raycone/exact"
	"raycone/poly"
	"raycone/wide"
)

func polyIs(of, s string) exact.Poly { return exact.Of(loose(of, s)) }

func nothing(of string) exact.Poly { return polyIs(of, "none") }

// joinerOf names, with signs for stops.
func joinerOf(of string, most int) Joiner { return Joiner{Most: most, Stops: signs(len(of))} }

// isSmall: it can be handed in, by numbers up to most.
func isSmall(t *testing.T, s exact.Poly, most int) bool {
	t.Helper()
	rows, err := s.Rows()
	if err != nil {
		t.Fatal(err)
	}
	great := func(r api.Row) bool {
		return slices.ContainsFunc(append(r.A, r.B), func(n int) bool { return n > most || n < -most })
	}
	return poly.Valid(rows) == nil && !slices.ContainsFunc(rows.Rows, great)
}

// What is made of two has both, and is small.
func TestJoinsAlways(t *testing.T) {
	m := makerOf(165)
	narrow := 0
	for range 1500 {
		of := m.of()
		s := joinerOf(of, []int{api.MaxEntry, 1000, 8}[m.Intn(3)])
		a, b := m.poly(len(of)), m.poly(len(of))
		join, around, widened := s.Join(a, b), s.around(a, b), s.Widen(a, b)
		for _, both := range []exact.Poly{join, around, widened} {
			if !a.Within(both) || !b.Within(both) || !isSmall(t, both, s.Most) {
				t.Fatal(a, b, s.Most, both)
			}
		}
		if s.Most > 1000 && join.Within(around) && len(around.Up)+len(around.Even) > 0 {
			narrow++
		}
		// Whatever it is widened by, it soon stays.
		changes := 0
		for range 40 {
			next := s.Widen(widened, around)
			if !next.Within(widened) {
				changes++
			}
			widened = next
			around = m.poly(len(of))
		}
		if changes > 25 {
			t.Error(a, changes)
		}
	}
	if narrow < 100 {
		t.Error(narrow)
	}
}

// What is told of two by hand: the least that has both; rows that are moved; rows that are widened.
func TestJoins(t *testing.T) {
	for _, c := range []struct{ of, a, b, join, around, widen string }{
		{"x", "x = 0", "x = 1", "x >= 0, x <= 1", "x >= 0, x <= 1", "x >= 0"},
		{"x", "x = 5", "x = 3", "x >= 3, x <= 5", "x >= 3, x <= 5", "x <= 5, x >= 0"},
		{"x", "x = 5", "x = -3", "x >= -3, x <= 5", "x >= -3, x <= 5", "x <= 5"},
		{"x", "x >= 0", "x = -1", "x >= -1", "x >= -1", ""},
		{"x", "", "x = -1", "", "", ""},
		{"xy", "x = 0, y = 0", "x = 1, y = 2", "y = 2x, x >= 0, x <= 1", "y = 2x, x >= 0, x <= 1", "y = 2x, x >= 0"},
		{"xy", "x = 1, y = 2", "x = 0, y = 0", "y = 2x, x >= 0, x <= 1", "y = 2x, x >= 0, x <= 1", "y = 2x, x <= 1, x >= 0"},
		{"xy", "x = 0, y >= 0", "x = 1, y >= 0", "x >= 0, x <= 1, y >= 0", "x >= 0, x <= 1, y >= 0", "x >= 0, y >= 0"},
		{"xy", "x = 0", "x = 1, y = 0", "x >= 0, x <= 1", "x >= 0, x <= 1", "x >= 0"},
		{"xy", "y = x", "y = x 1", "y >= x, y <= x 1", "y >= x, y <= x 1", "y >= x"},
		{"xy", "y = x", "y = 0", "", "", ""},
		{"xyz", "x = 0, z = y", "x = 1, z = y", "z = y, x >= 0, x <= 1", "z = y, x >= 0, x <= 1", "z = y, x >= 0"},
		{"xyz", "x = 0, z = y", "x = 1, y = 4, z = 4", "z = y, x >= 0, x <= 1", "z = y, x >= 0, x <= 1", "z = y, x >= 0"},
		{"xyz", "x = 1, y = 4, z = 4", "x = 0, z = y", "z = y, x >= 0, x <= 1", "z = y, x >= 0, x <= 1", "z = y, x <= 1, x >= 0"},
		{"xy", "x >= 0, y >= 0, x y <= 1", "x <= 3, y <= 3, x y >= 5", "x >= 0, y >= 0, y <= 3, x <= 3, y <= x 1, x <= y 1", "x >= 0, y >= 0, x <= 3, y <= 3, x y <= 6", "x >= 0, y >= 0"},
		{"xy", "x = y, x >= 0, x <= 1", "x = -y 10, x >= 4, x <= 6", "x >= y -2, x <= y 2, x y >= 0, x y <= 10, 3x >= 2y, 3y >= 2x", "x >= y -2, x <= y 2, x y >= 0, x y <= 10, x >= 0, y >= 0", "x >= 0, y >= 0"},
	} {
		s := joinerOf(c.of, api.MaxEntry)
		a, b := polyIs(c.of, c.a), polyIs(c.of, c.b)
		for i, pair := range []struct {
			got  exact.Poly
			want string
		}{{s.Join(a, b), c.join}, {s.around(a, b), c.around}, {s.Widen(a, b), c.widen}} {
			rows, err := pair.got.Rows()
			if !same(rows, formed(c.of, pair.want)) || err != nil {
				t.Error(c, i, said(c.of, rows), err)
			}
		}
	}
}

// Rows that are told as far as they are small, and tell more than those ahead.
func TestByRows(t *testing.T) {
	var needless []string
	for i := range 40 {
		needless = append(needless, "y >= -"+strconv.Itoa(i))
	}
	for _, c := range []struct {
		most  int
		even  string
		lists []string
		want  string
	}{
		{8, "", nil, ""},
		{8, "y = 2x", []string{"x >= 0", "y <= 4"}, "y = 2x, x >= 0, x <= 2"},
		{8, "y = 9x", []string{"x >= 0", "y <= 4"}, "x >= 0, y <= 4"},
		{8, "y = 8x", []string{"x 8y >= 3"}, "y = 8x"},
		{65, "y = 8x", []string{"x 8y >= 3"}, "y = 8x, 65y >= 24"},
		{8, "x = 9z, y = 10z", []string{"x z >= y"}, "x z >= y"},
		{10, "x = 9z, y = 10z", []string{"x z >= y"}, "x = 9z, y = 10z"},
		{100, "", []string{strings.Join(needless, ","), "x >= 1"}, "y >= 0, x >= 1"},
		{100, "", []string{"y >= 1", strings.Join(needless, ",") + ",x >= 1"}, "y >= 1, x >= 1"},
	} {
		of := "xyz"
		var lists [][]wide.Row
		for _, text := range c.lists {
			up, _ := exact.Split(loose(of, text).Rows)
			lists = append(lists, up)
		}
		_, even := exact.Split(loose(of, c.even).Rows)
		rows, err := joinerOf(of, c.most).byRows(len(of), even, lists...).Rows()
		if !same(rows, formed(of, c.want)) || err != nil {
			t.Error(c, said(of, rows), err)
		}
	}
}

// Rows with too great numbers are let go, wherever they come from; and so many that no more are left than can be handed in.
func TestKept(t *testing.T) {
	of := "xy"
	great := polyIs(of, "y = 1001x, x >= 0, x <= 9")
	other := polyIs(of, "y = 1001x, x >= 10, x <= 12")
	for i, c := range []struct {
		got  exact.Poly
		want string
	}{
		{joinerOf(of, 1001).Join(great, other), "y = 1001x, y >= 0, y <= 12012"},
		{joinerOf(of, 20000).Join(great, other), "y = 1001x, y >= 0, y <= 12012"},
		{joinerOf(of, 1000).Join(great, great), "y >= 0"},
		{joinerOf(of, 1000).Join(great, other), "y >= 0"},
		{joinerOf(of, 1000).Widen(great, other), "x >= 0, y >= 0"},
		{joinerOf(of, 1000).around(great, other), "x >= 0, y >= 0, x <= 12"},
		{joinerOf(of, 0).Join(great, other), ""},
		{joinerOf(of, 0).Widen(great, other), ""},
		{joinerOf(of, 0).Join(great, nothing(of)), "y = 1001x, x >= 0, x <= 9"},
	} {
		rows, err := c.got.Rows()
		want := formed(of, c.want)
		if i == 0 {
			// A bound above the most is let go, too.
			want = formed(of, "y = 1001x, y >= 0")
		}
		if !same(rows, want) || err != nil {
			t.Error(i, said(of, rows), err)
		}
	}
	m := makerOf(166)
	full := 0
	for range 10 {
		s := joinerOf("xyzwv", api.MaxEntry)
		side := func() exact.Poly {
			p := m.round(5, 23)
			p.Rows = append(p.Rows, loose("xyzwv", "v = 0").Rows...)
			return exact.Of(p)
		}
		a, b := side(), side()
		for _, both := range []exact.Poly{s.Join(a, b), s.around(a, b), s.Widen(a, b)} {
			if !a.Within(both) || !b.Within(both) || !isSmall(t, both, api.MaxEntry) {
				t.Fatal(both)
			}
			if len(both.Up)+len(both.Even) == api.MaxRows && len(both.Even) == 1 {
				full++
			}
		}
	}
	if full < 10 {
		t.Error(full)
	}
}

// Two of which the least that has both has too many rows to be told: some that hold for both are.
func TestJoinMany(t *testing.T) {
	simplex := func(from int) exact.Poly {
		var gens api.Gens
		for x := from; x < from+6; x++ {
			gens.Points = append(gens.Points, api.Point{X: []int{x, x * x, x * x * x, x * x * x * x, x * x * x * x * x}, Den: 1})
		}
		gens.Dim = 5
		p, err := poly.Constrain(gens)
		if err != nil || poly.Valid(p) != nil {
			t.Fatal(p, err)
		}
		return exact.Of(p)
	}
	a, b := simplex(-6), simplex(0)
	if _, ok := exact.FewMade(5, slices.Concat(a.Rays, b.Rays), nil, api.MaxMany); ok {
		t.Error("few rows")
	}
	for _, most := range []int{api.MaxEntry, 1000, 0} {
		s := joinerOf("xyzwv", most)
		for i, both := range []exact.Poly{s.Join(a, b), s.Join(s.Join(a, a), s.Join(b, b)), s.Widen(a, b)} {
			rows, err := both.Rows()
			if !a.Within(both) || !b.Within(both) || err != nil || poly.Valid(rows) != nil {
				t.Error(most, rows, err)
			}
			if slices.ContainsFunc(rows.Rows, func(r api.Row) bool {
				return slices.ContainsFunc(append(r.A, r.B), func(n int) bool { return n > most || n < -most })
			}) {
				t.Error(most, rows)
			}
			if (len(rows.Rows) == 0) != (most == 0) {
				t.Error(most, rows)
			}
			if x := exact.Of(loose("xyzwv", "x >= -6, x <= 5")); most > 0 && i == 0 && (!both.IsUp(x.Up[0]) || !both.IsUp(x.Up[1])) {
				t.Error(most, rows)
			}
		}
		// Of nothing and another one: that one, as it is.
		for _, both := range []exact.Poly{s.Join(a, nothing("xyzwv")), s.Join(nothing("xyzwv"), a), s.Widen(a, nothing("xyzwv")), s.Widen(nothing("xyzwv"), a)} {
			if !a.Within(both) || !both.Within(a) {
				t.Error(most, both)
			}
		}
	}
}

// Rows that are moved touch what they hold on.
func TestMoved(t *testing.T) {
	for _, c := range []struct{ row, of, want string }{
		{"x >= 0", "x = 3, y = 1", "x >= 3"},
		{"x >= 9", "x = 3, y = 1", "x >= 3"},
		{"x <= 0", "x = 3, y = 1", "x <= 3"},
		{"2x -y >= 0", "3x = 1, 2y = 1", "12x -6y >= 1"},
		{"x y <= 1", "x >= 0, x <= 3, y >= 1, y <= 2", "x y <= 5"},
		{"x y >= 100", "x >= -4, x <= 3, 2y >= 1, y <= 2", "2x 2y >= -7"},
		{"x >= 0", "x >= 1, y >= 2", "x >= 1"},
		{"x -y >= 0", "x >= 1, y >= 2", ""},
		{"x <= 0", "x >= 1, y >= 2", ""},
		{"x y >= 0", "x >= 1, y >= 2", "x y >= 3"},
		{"x y >= 7", "2x 2y = 5", "2x 2y >= 5"},
		{"x y <= 7", "2x 2y = 5", "2x 2y <= 5"},
		{"2x y <= 7", "2x 2y = 5", ""},
		{"x <= 7", "3x <= -5", "3x <= -5"},
		{"y <= 7", "3x <= -5", ""},
		{"y >= 7", "y >= 7, x = 0", "y >= 7"},
	} {
		p := exact.Of(loose("xy", c.of))
		got := moved(exact.Of(loose("xy", c.row)).Up, p.Rays, p.Lines)
		if want := exact.Of(loose("xy", c.want)).Up; !slices.EqualFunc(got, want, func(a, b wide.Row) bool { return a.Compare(b) == 0 }) {
			t.Error(c, got)
		}
	}
}

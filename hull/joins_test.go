package hull

import (
	"slices"
	"strconv"
	"strings"
	"testing"

	"raycone/api"
	"raycone/exact"
	"raycone/poly"
	"raycone/wide"
)

func stateIs(of, s string) state { return state{Poly: exact.Of(loose(of, s))} }

// scannerOf names, with signs for stops.
func scannerOf(of string, most int) scanner {
	v := viewOf(names(), chosen(of))
	return scanner{view: v, most: most, stops: ways(v.zeros().Poly)}
}

// isSmall: it can be handed in, by numbers up to most.
func isSmall(t *testing.T, s state, most int) bool {
	t.Helper()
	rows, err := s.Rows()
	if err != nil {
		t.Fatal(err)
	}
	great := func(r api.Row) bool {
		return slices.ContainsFunc(append(r.A, r.B), func(n int) bool { return n > most || n < -most })
	}
	return poly.Valid(rows) == nil && !slices.ContainsFunc(rows.Rows, great)
}

// What is made of two has both, and is small.
func TestJoinsAlways(t *testing.T) {
	m := makerOf(165)
	narrow := 0
	for range 1500 {
		of := m.of(5)
		c, s := chosen(of), scannerOf(of, []int{api.MaxEntry, 1000, 8}[m.Intn(3)])
		p, _ := m.state(c)
		q, _ := m.state(c)
		a, b := state{Poly: exact.Of(p)}, state{Poly: exact.Of(q)}
		join, around, widened := s.join(a, b), s.around(a, b), s.widen(a, b)
		for _, both := range []state{join, around, widened} {
			if !within(a, both) || !within(b, both) || !isSmall(t, both, s.most) {
				t.Fatal(said(of, p), said(of, q), s.most, both)
			}
		}
		if s.most > 1000 && within(join, around) && len(around.Up)+len(around.Even) > 0 {
			narrow++
		}
		// Whatever it is widened by, it soon stays.
		changes := 0
		for range 40 {
			next := s.widen(widened, around)
			if !within(next, widened) {
				changes++
			}
			widened = next
			r, _ := m.state(c)
			around = state{Poly: exact.Of(r)}
		}
		if changes > 25 {
			t.Error(said(of, p), changes)
		}
	}
	if narrow < 100 {
		t.Error(narrow)
	}
}

// What is told of two by hand: the least that has both; rows that are moved; rows that are widened.
func TestJoins(t *testing.T) {
	for _, c := range []struct{ of, a, b, join, around, widen string }{
		{"x", "x = 0", "x = 1", "x >= 0, x <= 1", "x >= 0, x <= 1", "x >= 0"},
		{"x", "x = 5", "x = 3", "x >= 3, x <= 5", "x >= 3, x <= 5", "x <= 5, x >= 0"},
		{"x", "x = 5", "x = -3", "x >= -3, x <= 5", "x >= -3, x <= 5", "x <= 5"},
		{"x", "x >= 0", "x = -1", "x >= -1", "x >= -1", ""},
		{"x", "", "x = -1", "", "", ""},
		{"xy", "x = 0, y = 0", "x = 1, y = 2", "y = 2x, x >= 0, x <= 1", "y = 2x, x >= 0, x <= 1", "y = 2x, x >= 0"},
		{"xy", "x = 1, y = 2", "x = 0, y = 0", "y = 2x, x >= 0, x <= 1", "y = 2x, x >= 0, x <= 1", "y = 2x, x <= 1, x >= 0"},
		{"xy", "x = 0, y >= 0", "x = 1, y >= 0", "x >= 0, x <= 1, y >= 0", "x >= 0, x <= 1, y >= 0", "x >= 0, y >= 0"},
		{"xy", "x = 0", "x = 1, y = 0", "x >= 0, x <= 1", "x >= 0, x <= 1", "x >= 0"},
		{"xy", "y = x", "y = x 1", "y >= x, y <= x 1", "y >= x, y <= x 1", "y >= x"},
		{"xy", "y = x", "y = 0", "", "", ""},
		{"xyz", "x = 0, z = y", "x = 1, z = y", "z = y, x >= 0, x <= 1", "z = y, x >= 0, x <= 1", "z = y, x >= 0"},
		{"xyz", "x = 0, z = y", "x = 1, y = 4, z = 4", "z = y, x >= 0, x <= 1", "z = y, x >= 0, x <= 1", "z = y, x >= 0"},
		{"xyz", "x = 1, y = 4, z = 4", "x = 0, z = y", "z = y, x >= 0, x <= 1", "z = y, x >= 0, x <= 1", "z = y, x <= 1, x >= 0"},
		{"xy", "x >= 0, y >= 0, x y <= 1", "x <= 3, y <= 3, x y >= 5", "x >= 0, y >= 0, y <= 3, x <= 3, y <= x 1, x <= y 1", "x >= 0, y >= 0, x <= 3, y <= 3, x y <= 6", "x >= 0, y >= 0"},
		{"xy", "x = y, x >= 0, x <= 1", "x = -y 10, x >= 4, x <= 6", "x >= y -2, x <= y 2, x y >= 0, x y <= 10, 3x >= 2y, 3y >= 2x", "x >= y -2, x <= y 2, x y >= 0, x y <= 10, x >= 0, y >= 0", "x >= 0, y >= 0"},
	} {
		s := scannerOf(c.of, api.MaxEntry)
		a, b := stateIs(c.of, c.a), stateIs(c.of, c.b)
		for i, pair := range []struct {
			got  state
			want string
		}{{s.join(a, b), c.join}, {s.around(a, b), c.around}, {s.widen(a, b), c.widen}} {
			rows, err := pair.got.Rows()
			if !same(rows, formed(c.of, pair.want)) || err != nil {
				t.Error(c, i, said(c.of, rows), err)
			}
		}
	}
}

// Rows that are told as far as they are small, and tell more than those ahead.
func TestByRows(t *testing.T) {
	var needless []string
	for i := range 40 {
		needless = append(needless, "y >= -"+strconv.Itoa(i))
	}
	for _, c := range []struct {
		most  int
		even  string
		lists []string
		want  string
	}{
		{8, "", nil, ""},
		{8, "y = 2x", []string{"x >= 0", "y <= 4"}, "y = 2x, x >= 0, x <= 2"},
		{8, "y = 9x", []string{"x >= 0", "y <= 4"}, "x >= 0, y <= 4"},
		{8, "y = 8x", []string{"x 8y >= 3"}, "y = 8x"},
		{65, "y = 8x", []string{"x 8y >= 3"}, "y = 8x, 65y >= 24"},
		{8, "x = 9z, y = 10z", []string{"x z >= y"}, "x z >= y"},
		{10, "x = 9z, y = 10z", []string{"x z >= y"}, "x = 9z, y = 10z"},
		{100, "", []string{strings.Join(needless, ","), "x >= 1"}, "y >= 0, x >= 1"},
		{100, "", []string{"y >= 1", strings.Join(needless, ",") + ",x >= 1"}, "y >= 1, x >= 1"},
	} {
		of := "xyz"
		var lists [][]wide.Row
		for _, text := range c.lists {
			up, _ := exact.Split(loose(of, text).Rows)
			lists = append(lists, up)
		}
		_, even := exact.Split(loose(of, c.even).Rows)
		rows, err := scannerOf(of, c.most).byRows(even, lists...).Rows()
		if !same(rows, formed(of, c.want)) || err != nil {
			t.Error(c, said(of, rows), err)
		}
	}
}

// Rows with too great numbers are let go, wherever they come from; and so many that no more are left than can be handed in.
func TestKept(t *testing.T) {
	of := "xy"
	great := stateIs(of, "y = 1001x, x >= 0, x <= 9")
	other := stateIs(of, "y = 1001x, x >= 10, x <= 12")
	for i, c := range []struct {
		got  state
		want string
	}{
		{scannerOf(of, 1001).join(great, other), "y = 1001x, y >= 0, y <= 12012"},
		{scannerOf(of, 20000).join(great, other), "y = 1001x, y >= 0, y <= 12012"},
		{scannerOf(of, 1000).join(great, great), "y >= 0"},
		{scannerOf(of, 1000).join(great, other), "y >= 0"},
		{scannerOf(of, 1000).widen(great, other), "x >= 0, y >= 0"},
		{scannerOf(of, 1000).around(great, other), "x >= 0, y >= 0, x <= 12"},
		{scannerOf(of, 0).join(great, other), ""},
		{scannerOf(of, 0).widen(great, other), ""},
		{scannerOf(of, 0).join(great, scannerOf(of, 0).nothing()), "y = 1001x, x >= 0, x <= 9"},
	} {
		rows, err := c.got.Rows()
		want := formed(of, c.want)
		if i == 0 {
			// A bound above the most is let go, too.
			want = formed(of, "y = 1001x, y >= 0")
		}
		if !same(rows, want) || err != nil {
			t.Error(i, said(of, rows), err)
		}
	}
	m := makerOf(166)
	full := 0
	for range 10 {
		s := scannerOf("xyzwv", api.MaxEntry)
		side := func() state {
			act := round(m, 6, 6, 23).Edges[5].Act
			one := stateOf(s.after(stateIs("xyzwv", "v = 0").Poly, act))
			if !one.isLost {
				return one
			}
			t.Fatal(one)
			return state{}
		}
		a, b := side(), side()
		for _, both := range []state{s.join(a, b), s.around(a, b), s.widen(a, b)} {
			if !within(a, both) || !within(b, both) || !isSmall(t, both, api.MaxEntry) {
				t.Fatal(both)
			}
			if len(both.Up)+len(both.Even) == api.MaxRows && len(both.Even) == 1 {
				full++
			}
		}
	}
	if full < 10 {
		t.Error(full)
	}
}

// Two of which the least that has both has too many rows to be told: some that hold for both are.
func TestJoinMany(t *testing.T) {
	simplex := func(from int) state {
		var gens api.Gens
		for x := from; x < from+6; x++ {
			gens.Points = append(gens.Points, api.Point{X: []int{x, x * x, x * x * x, x * x * x * x, x * x * x * x * x}, Den: 1})
		}
		gens.Dim = 5
		p, err := poly.Constrain(gens)
		if err != nil || poly.Valid(p) != nil {
			t.Fatal(p, err)
		}
		return state{Poly: exact.Of(p)}
	}
	a, b := simplex(-6), simplex(0)
	v := viewOf(names(), Choice{0, 1, 2, 3, 4})
	if _, ok := exact.FewMade(5, slices.Concat(a.Rays, b.Rays), nil, api.MaxMany); ok {
		t.Error("few rows")
	}
	for _, most := range []int{api.MaxEntry, 1000, 0} {
		s := scanner{view: v, most: most, stops: ways(v.zeros().Poly)}
		for i, both := range []state{s.join(a, b), s.join(s.join(a, a), s.join(b, b)), s.widen(a, b)} {
			rows, err := both.Rows()
			if !within(a, both) || !within(b, both) || err != nil || poly.Valid(rows) != nil {
				t.Error(most, rows, err)
			}
			if slices.ContainsFunc(rows.Rows, func(r api.Row) bool {
				return slices.ContainsFunc(append(r.A, r.B), func(n int) bool { return n > most || n < -most })
			}) {
				t.Error(most, rows)
			}
			if (len(rows.Rows) == 0) != (most == 0) {
				t.Error(most, rows)
			}
			if x := exact.Of(loose("xyzwv", "x >= -6, x <= 5")); most > 0 && i == 0 && (!both.IsUp(x.Up[0]) || !both.IsUp(x.Up[1])) {
				t.Error(most, rows)
			}
		}
		// Of nothing and another one: that one, as it is.
		for _, both := range []state{s.join(a, v.nothing()), s.join(v.nothing(), a), s.widen(a, v.nothing()), s.widen(v.nothing(), a)} {
			if !within(a, both) || !within(both, a) {
				t.Error(most, both)
			}
		}
	}
}

// Rows that are moved touch what they hold on.
func TestMoved(t *testing.T) {
	for _, c := range []struct{ row, of, want string }{
		{"x >= 0", "x = 3, y = 1", "x >= 3"},
		{"x >= 9", "x = 3, y = 1", "x >= 3"},
		{"x <= 0", "x = 3, y = 1", "x <= 3"},
		{"2x -y >= 0", "3x = 1, 2y = 1", "12x -6y >= 1"},
		{"x y <= 1", "x >= 0, x <= 3, y >= 1, y <= 2", "x y <= 5"},
		{"x y >= 100", "x >= -4, x <= 3, 2y >= 1, y <= 2", "2x 2y >= -7"},
		{"x >= 0", "x >= 1, y >= 2", "x >= 1"},
		{"x -y >= 0", "x >= 1, y >= 2", ""},
		{"x <= 0", "x >= 1, y >= 2", ""},
		{"x y >= 0", "x >= 1, y >= 2", "x y >= 3"},
		{"x y >= 7", "2x 2y = 5", "2x 2y >= 5"},
		{"x y <= 7", "2x 2y = 5", "2x 2y <= 5"},
		{"2x y <= 7", "2x 2y = 5", ""},
		{"x <= 7", "3x <= -5", "3x <= -5"},
		{"y <= 7", "3x <= -5", ""},
		{"y >= 7", "y >= 7, x = 0", "y >= 7"},
	} {
		p := exact.Of(loose("xy", c.of))
		got := moved(exact.Of(loose("xy", c.row)).Up, p.Rays, p.Lines)
		if want := exact.Of(loose("xy", c.want)).Up; !slices.EqualFunc(got, want, func(a, b wide.Row) bool { return a.Compare(b) == 0 }) {
			t.Error(c, got)
		}
	}
}

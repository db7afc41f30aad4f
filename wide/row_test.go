package wide

import (
	"cmp"
	"math"
	"math/rand"
	"slices"
	"testing"
)

func TestRowAsked(t *testing.T) {
	r := RowOf([]int{0, 0, -3, 5})
	below := func(n Num) bool { return n.Sign() < 0 }
	if r.First(below) != 2 || !r.Any(below) || r.Pivot() != 2 {
		t.Error(r.First(below), r.Any(below), r.Pivot())
	}
	great := func(n Num) bool { return n.Above(5) }
	if r.First(great) != -1 || r.Any(great) {
		t.Error(r.First(great), r.Any(great))
	}
	if got := RowOf([]int{0, 0}).Pivot(); got != -1 {
		t.Error(got)
	}
	if got := Row(nil).Pivot(); got != -1 {
		t.Error(got)
	}
}

func TestRowCompare(t *testing.T) {
	great := From(math.MaxInt).Times(From(2))
	rising := []Row{{}, {great.Negated()}, {From(-1), great}, {From(0)}, {From(0), From(-5)}, {From(0), From(3)}, {From(2)}, {great}, {great.Plus(From(1))}}
	for i, a := range rising {
		for j, b := range rising {
			if got := a.Compare(b); got != cmp.Compare(i, j) {
				t.Error(i, j, got)
			}
		}
	}
}

func TestRowInts(t *testing.T) {
	want := []int{math.MinInt, 0, math.MaxInt}
	if got, ok := RowOf(want).Ints(); !ok || !slices.Equal(got, want) {
		t.Error(got, ok)
	}
	if got, ok := (Row{From(1), From(math.MaxInt).Plus(From(1))}).Ints(); ok || len(got) != 0 {
		t.Error(got, ok)
	}
}

// Signs, 0, and numbers that no int holds.
func TestRowDot(t *testing.T) {
	great := From(math.MaxInt).Times(From(-4))
	for i, c := range []struct {
		a, b Row
		want Num
	}{
		{nil, nil, From(0)},
		{RowOf([]int{1, 2}), nil, From(0)},
		{RowOf([]int{-1, 2}), RowOf([]int{3, -4, 5}), From(-11)},
		{RowOf([]int{3, -4, 5}), RowOf([]int{-1, 2}), From(-11)},
		{RowOf([]int{-3, 0, -2}), RowOf([]int{-5, 7, 1}), From(13)},
		{RowOf([]int{0, 0}), Row{great, From(-1)}, From(0)},
		{Row{great, From(2)}, RowOf([]int{-1, 3}), great.Negated().Plus(From(6))},
		{Row{great, From(2)}, Row{great, From(-1)}, great.Times(great).Minus(From(2))},
		{Row{great, great}, RowOf([]int{1, -1}), From(0)},
	} {
		if got := c.a.Dot(c.b); got.Compare(c.want) != 0 {
			t.Error(i, got)
		}
	}
}

func TestRowSums(t *testing.T) {
	a, b := RowOf([]int{1, 2, 3}), RowOf([]int{4, -5, 6})
	if got, _ := a.Sum(From(2), b, From(-1)).Ints(); !slices.Equal(got, []int{-2, 9, 0}) {
		t.Error(got)
	}
	if got, _ := a.Dot(b).Int(); got != 12 {
		t.Error(got)
	}
	if got, _ := a.Dot(b[:1]).Int(); got != 4 {
		t.Error(got)
	}
}

func TestRowNormal(t *testing.T) {
	great := From(math.MaxInt).Times(From(math.MaxInt))
	r := Row{great.Times(From(4)), Num{}, great.Times(From(-6))}
	if got, ok := r.Normal().Ints(); !ok || !slices.Equal(got, []int{2, 0, -3}) {
		t.Error(got, ok)
	}
	if got := (Row{great, From(1)}).Divisor(); got.Above(1) || got.Sign() != 1 {
		t.Error(got)
	}
}

func TestClearColumn(t *testing.T) {
	m := RowsOf([][]int{{2, 1, 3}, {4, 5, 1}, {0, 1, 1}})
	want := [][][]int{{{2, 1, 3}, {0, 6, -10}, {0, 2, 2}}, {{6, 0, 14}, {0, 6, -10}, {0, 0, 16}}}
	last := From(1)
	for i, rows := range want {
		ClearColumn(m, i, i, last)
		last = m[i][i]
		for j, row := range m {
			if got, ok := row.Ints(); !ok || !slices.Equal(got, rows[j]) {
				t.Error(i, j, got, ok)
			}
		}
	}
}

// The greatest matrix that can be handed in has minors of some 800 bits.
func TestReducedGreat(t *testing.T) {
	r := rand.New(rand.NewSource(3))
	m := make([]Row, 24)
	for i := range m {
		l := make([]int, 24)
		for j := range l {
			l[j] = r.Intn(1<<32+1) - 1<<31
		}
		m[i] = RowOf(l)
	}
	for i, row := range Reduced(m) {
		want := make([]int, 24)
		want[i] = 1
		if got, ok := row.Ints(); !ok || !slices.Equal(got, want) {
			t.Fatal(i, got, ok)
		}
	}
	half := Reduced(m[:12])
	if len(half) != 12 || !half[0].Any(func(n Num) bool { return n.Above(math.MaxInt) }) {
		t.Fatal("half of the rows have no great numbers")
	}
	for i, row := range m {
		isSum := row.Rest(half).Pivot() < 0
		if isSum != (i < 12) {
			t.Errorf("row %d is a sum of the first twelve: %v", i, isSum)
		}
	}
}

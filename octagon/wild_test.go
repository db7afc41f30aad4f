package octagon

import (
	"fmt"
	"math"
	"slices"
	"strings"
	"sync"
	"testing"

	"raycone/api"
	"raycone/zone"
)

// numbers that a call is given beside octagons: a times x, b times y, c.
type numbers struct{ a, x, b, y, c int }

// call of the package, whatever it answers: octagons, and text for the rest.
type call struct {
	name string
	of   func(a, b Octagon, n numbers) (Octagon, string, bool, error)
}

func some(name string, of func(a, b Octagon, n numbers) (Octagon, bool, error)) call {
	return call{name, func(a, b Octagon, n numbers) (Octagon, string, bool, error) {
		o, ok, err := of(a, b, n)
		return o, "", ok, err
	}}
}

func always(name string, of func(a, b Octagon) (Octagon, error)) call {
	return some(name, func(a, b Octagon, n numbers) (Octagon, bool, error) {
		o, err := of(a, b)
		return o, err == nil, err
	})
}

// single: calls of one octagon.
func single() []call {
	return []call{
		some("Close", func(a, _ Octagon, n numbers) (Octagon, bool, error) { return Close(a) }),
		some("Forget", func(a, _ Octagon, n numbers) (Octagon, bool, error) { return Forget(a, n.x) }),
		some("Assign", func(a, _ Octagon, n numbers) (Octagon, bool, error) { return Assign(a, n.x, n.b, n.y, n.c) }),
		some("Guard", func(a, _ Octagon, n numbers) (Octagon, bool, error) { return Guard(a, n.a, n.x, n.b, n.y, n.c) }),
		{"Bounds", func(a, _ Octagon, n numbers) (Octagon, string, bool, error) {
			i, ok, err := Bounds(a, n.x)
			text := ""
			if i != (api.Interval{}) {
				text = fmt.Sprint(i)
			}
			return Octagon{}, text, ok, err
		}},
		some("Has", func(a, _ Octagon, n numbers) (Octagon, bool, error) {
			ok, err := Has(a, []int{n.x, n.c})
			return Octagon{}, ok, err
		}),
	}
}

// double: calls of two octagons.
func double() []call {
	return []call{
		always("Join", Join), always("Widen", Widen),
		some("Meet", func(a, b Octagon, n numbers) (Octagon, bool, error) { return Meet(a, b) }),
		some("Within", func(a, b Octagon, n numbers) (Octagon, bool, error) {
			ok, err := Within(a, b)
			return Octagon{}, ok, err
		}),
	}
}

// wild octagons: right and wrong ones.
func wild() []Octagon {
	l := []Octagon{{}, {N: -1}, {N: math.MinInt}, {N: math.MaxInt}, {N: 1 << 32}, of(5), {N: 2, L: make([]Cell, 15)}, {N: 2, L: make([]Cell, 17)}, {N: 3, L: make([]Cell, 16)}, {N: 1, L: []Cell{}}}
	for _, n := range []int{1, 2, 4} {
		l = append(l, of(n), closed(n), none(n), of(n, once(n, 0, 2, most)), of(n, once(n, n-1, -2, 1-most)), of(n, once(n, 0, 0, -1)), of(n, once(n, 0, 2, over)), of(n, once(n, 0, 2, math.MinInt)), of(n, once(n, 0, 0, math.MaxInt)), of(n, once(n, 0, 2, 1), once(n, 0, -2, -1)))
		loose, lone, great, least := of(n), of(n), of(n), of(n)
		loose.L[n].Most = math.MaxInt
		lone.L[0] = Cell{true, 1}
		for i := range great.L {
			great.L[i], least.L[i] = Cell{true, most}, Cell{true, -most}
		}
		l = append(l, loose, lone, great, least)
	}
	return l
}

func isFar(n int) bool { return n < -most || n > most }

// wantedError of a call of one octagon: in the order in which the promises name them.
func wantedError(name string, o Octagon, n numbers) error {
	outside := func(x int) bool { return x < 0 || x >= o.N }
	noSign := func(s int) bool { return s != 1 && s != -1 && s != 0 }
	if err := Valid(o); err != nil {
		return err
	}
	shape, far := false, false
	switch name {
	case "Forget", "Bounds":
		shape = outside(n.x)
	case "Assign":
		shape, far = outside(n.x) || outside(n.y) || noSign(n.b), isFar(n.c)
	case "Guard":
		shape, far = outside(n.x) || outside(n.y) || noSign(n.a) || noSign(n.b) || n.x == n.y, isFar(n.c)
	case "Has":
		shape, far = o.N != 2, isFar(n.x) || isFar(n.c)
	}
	switch {
	case shape:
		return api.ErrShape
	case far:
		return api.ErrBound
	}
	return nil
}

// eachNumbers: of signs, variables and numbers, right and wrong ones.
func eachNumbers(do func(n numbers)) {
	signs, variables := []int{math.MinInt, -2, -1, 0, 1, 2, math.MaxInt}, []int{math.MinInt, -1, 0, 1, 3, 4, 1 << 62, math.MaxInt}
	for _, a := range signs {
		for _, b := range signs {
			for _, x := range variables {
				for _, y := range variables {
					for _, c := range []int{math.MinInt, -over, -most, 0, most, over, math.MaxInt} {
						do(numbers{a, x, b, y, c})
					}
				}
			}
		}
	}
}

// P1, P3, P90 to P94: whatever is handed over, errors are told in their order, bare and with nothing else; what is told is valid.
func TestWild(t *testing.T) {
	for _, o := range wild() {
		eachNumbers(func(n numbers) {
			for _, c := range single() {
				// What a call is not given makes no difference.
				if c.name == "Guard" || n.a == 0 && (c.name == "Assign" || n.b == 0 && n.y == 0) {
					checkWild(t, c, o, o, n, wantedError(c.name, o, n))
				}
			}
		})
	}
}

// P1, P3, P92, P94: errors of a are told ahead of those of b, and those ahead of unlike numbers of variables.
func TestWildPairs(t *testing.T) {
	for _, a := range wild() {
		for _, b := range wild() {
			want := Valid(a)
			if want == nil {
				want = Valid(b)
			}
			if want == nil && a.N != b.N {
				want = api.ErrShape
			}
			for _, c := range double() {
				checkWild(t, c, a, b, numbers{}, want)
			}
		}
	}
}

func checkWild(t *testing.T, c call, a, b Octagon, n numbers, want error) {
	t.Helper()
	o, text, ok, err := c.of(a, b, n)
	if c.name == "Join" && want == nil && hasNone(a) && hasNone(b) {
		want = api.ErrEmpty
	}
	switch {
	case err != want:
		t.Error(c.name, a, b, n, err, "want", want)
	case !ok && (!isZero(o) || text != ""):
		t.Error(c.name, a, b, n, o, text, err)
	case err != nil && ok:
		t.Error(c.name, a, b, n, ok, err)
	case !isZero(o) && (Valid(o) != nil || o.N != a.N):
		t.Error(c.name, a, b, n, o)
	}
}

func hasNone(o Octagon) bool {
	_, ok, err := Close(o)
	return !ok && err == nil
}

// P3, P4: what is handed over is only read, and not behind its length; what is answered is new memory.
func TestMemory(t *testing.T) {
	room := func(o Octagon) Octagon {
		l := append(slices.Clone(o.L), Cell{true, math.MinInt}, Cell{false, 7})
		return Octagon{N: o.N, L: l[:len(o.L)]}
	}
	for _, l := range [][2]Octagon{
		{of(2, []int{1, 1, 3}, []int{1, -1, 2}), of(2, []int{1, 1, 4})}, {of(2), none(2)}, {none(2), of(2, is(2, 1, 3, 4)...)}, {closed(2), closed(2)}, {none(2), none(2)},
	} {
		for _, c := range append(single(), double()...) {
			a, b, n := room(l[0]), room(l[1]), numbers{1, 0, -1, 1, 1}
			first, _, _, _ := c.of(a, b, n)
			kept := slices.Clone(first.L)
			if len(first.L) > 0 {
				second, _, _, _ := c.of(a, b, n)
				fill(second.L[:cap(second.L)])
			}
			if !same(a, l[0]) || !same(b, l[1]) || behind(a) != behind(b) || behind(a) != (Cell{true, math.MinInt}) {
				t.Error(c.name, "changed", a, b)
			}
			fill(a.L)
			fill(b.L)
			if !slices.Equal(first.L, kept) {
				t.Error(c.name, "kept", first, kept)
			}
		}
	}
}

func behind(o Octagon) Cell { return o.L[:len(o.L)+1][len(o.L)] }

func fill(l []Cell) {
	for i := range l {
		l[i] = Cell{true, 99}
	}
}

// P4: a point and a zone are only read, and not behind their lengths.
func TestOthersAreRead(t *testing.T) {
	whole := []int{1, 2, math.MaxInt}
	if ok, err := Has(of(2, []int{1, 1, 3}), whole[:2]); !ok || err != nil || !slices.Equal(whole, []int{1, 2, math.MaxInt}) {
		t.Error(ok, err, whole)
	}
	cells := []zone.Cell{{}, {Has: true, Most: 3}, {}, {}, {Most: math.MinInt}}
	before := slices.Clone(cells)
	if o, ok, err := OfZone(zone.Zone{N: 1, L: cells[:4]}); !same(o, closed(1, []int{2, 6})) || !ok || err != nil || !slices.Equal(cells, before) {
		t.Error(o, ok, err, cells)
	}
}

// P2: the same answers, however many ask side by side.
func TestSideBySide(t *testing.T) {
	list := wild()
	ask := func() string {
		var s strings.Builder
		for i, a := range list {
			for _, c := range append(single(), double()...) {
				o, text, ok, err := c.of(a, list[(i+1)%len(list)], numbers{1, 1, -1, 0, 3})
				fmt.Fprintln(&s, o, text, ok, err)
			}
		}
		return s.String()
	}
	want, got := ask(), make([]string, api.Workers)
	var all sync.WaitGroup
	for i := range got {
		all.Go(func() { got[i] = ask() })
	}
	all.Wait()
	for i := range got {
		if got[i] != want {
			t.Error("another answer beside others", i)
		}
	}
}

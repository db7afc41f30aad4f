package scan

import (
	"math/rand"
	"testing"

	"raycone/api"
	"raycone/flow"
	"raycone/interval"
	"raycone/lang"
)

// isSeen: each part of a term is told as Eval tells it.
func isSeen(t *testing.T, g flow.Graph, s State, e lang.Expr, seen Seen) {
	t.Helper()
	a, ok, err := Eval(g, s, e)
	if err != nil || ok != seen.Right || a != seen.Has || len(seen.Parts) != len(e.L) {
		t.Fatal(saidState(s), e, seen, a, ok, err)
	}
	for i, part := range e.L {
		isSeen(t, g, s, part, seen.Parts[i])
	}
}

func TestSee(t *testing.T) {
	m := maker{rand.New(rand.NewSource(1410))}
	wrong := 0
	for i := range 3000 {
		s := m.state()
		if i%10 == 0 {
			s = State{None: true}
		}
		e := actOf(t, "x="+m.term(1+m.Intn(3))+";").Args[0]
		seen, err := See(names(), s, e)
		if err != nil {
			t.Fatal(err)
		}
		if !seen.Right {
			wrong++
		}
		isSeen(t, names(), s, e, seen)
	}
	if wrong < 100 || wrong > 2900 {
		t.Error(wrong)
	}
	for _, e := range []lang.Expr{{}, {Op: "var", Name: "q"}, {Op: "neg"}} {
		if seen, err := See(names(), m.state(), e); err != api.ErrShape || seen.Right || len(seen.Parts) > 0 {
			t.Error(seen, err)
		}
	}
}

// A join has what either has, interval by interval, and is new memory.
func TestJoin(t *testing.T) {
	m := maker{rand.New(rand.NewSource(1411))}
	for range 500 {
		a, b := m.state(), m.state()
		before := saidState(a) + saidState(b)
		got, err := Join(names(), a, b)
		if err != nil || got.None {
			t.Fatal(got, err)
		}
		for i := range got.Vars {
			if x, _ := interval.Join(a.Vars[i], b.Vars[i]); got.Vars[i] != x {
				t.Fatal(saidState(a), saidState(b), saidState(got))
			}
		}
		for i := range got.Arrays {
			if x, _ := interval.Join(a.Arrays[i], b.Arrays[i]); got.Arrays[i] != x {
				t.Fatal(saidState(a), saidState(b), saidState(got))
			}
		}
		none := State{None: true}
		l, _ := Join(names(), a, none)
		r, _ := Join(names(), none, a)
		if saidState(l) != saidState(a) || saidState(r) != saidState(a) {
			t.Fatal(saidState(a), saidState(l), saidState(r))
		}
		l.Vars[0], r.Arrays[0], got.Vars[1] = interval0(), interval0(), interval0()
		if saidState(a)+saidState(b) != before {
			t.Fatal("not new memory")
		}
	}
	good, none := m.state(), State{None: true}
	if got, err := Join(names(), none, none); err != nil || !got.None {
		t.Error(got, err)
	}
	bad := m.state()
	bad.Vars = bad.Vars[1:]
	far := m.state()
	far.Arrays[0] = api.Interval{Low: 2, High: 1}
	for _, s := range []State{bad, far, {None: true, Vars: good.Vars}, {}} {
		for _, pair := range [][2]State{{good, s}, {s, good}, {none, s}} {
			if got, err := Join(names(), pair[0], pair[1]); err != api.ErrShape || got.None || len(got.Vars) > 0 {
				t.Error(got, err)
			}
		}
	}
	if _, err := Join(flow.Graph{}, none, none); err != api.ErrShape {
		t.Error(err)
	}
}

func interval0() api.Interval { return api.Interval{Low: -77, High: -77} }

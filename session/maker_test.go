package session

import (
	"fmt"
	"testing"

	"raycone/api"
	"raycone/poly"
)

// begun: a session in which these commands were done.
func begun(t *testing.T, lines ...string) *Session {
	t.Helper()
	s := New()
	do(t, s, lines...)
	return s
}

func do(t *testing.T, s *Session, lines ...string) {
	t.Helper()
	for _, line := range lines {
		if err := s.Do(line); err != nil {
			t.Fatalf("%q: %v", line, err)
		}
	}
}

// fields of anything, all of them.
func fields(v any) string { return fmt.Sprintf("%+v", v) }

// ofText: the form of what a text tells.
func ofText(t *testing.T, dim int, text string) api.Poly {
	t.Helper()
	p, err := poly.Read(dim, text)
	if err != nil {
		t.Fatalf("%q: %v", text, err)
	}
	p, err = poly.Form(p)
	if err != nil {
		t.Fatalf("%q: %v", text, err)
	}
	return p
}

// is asks that a name has just this polyhedron, row by row.
func is(t *testing.T, s *Session, name string, dim int, text string) {
	t.Helper()
	p, err := s.Get(name)
	if err != nil || p.Dim != dim {
		t.Errorf("%s: %v, %v", name, p, err)
		return
	}
	if got, err := poly.Text(p); got != text || err != nil {
		t.Errorf("%s is %q, not %q (%v)", name, got, text, err)
	}
	if want := ofText(t, dim, text); fields(p) != fields(want) {
		t.Errorf("%s is not in form: %v, not %v", name, p, want)
	}
}

// asked of a session: what it must answer, without an error.
func asked(t *testing.T, s *Session, line, want string) {
	t.Helper()
	if got, err := s.Ask(line); got != want || err != nil {
		t.Errorf("%q: %q, %v; not %q", line, got, err, want)
	}
}

// worked asks how many answers were worked out.
func worked(t *testing.T, s *Session, want int) {
	t.Helper()
	if n := s.Asked(); n != want {
		t.Errorf("%d answers were worked out, not %d", n, want)
	}
}

// many is a session in which c has 32 rows, more than can be handed in, and the rest is small: a double pyramid, made by its points.
func many(t *testing.T) *Session {
	t.Helper()
	s := begun(t, "c = point 1 0 0 0 0")
	for _, point := range []string{"-1 0 0 0 0", "0 1 0 0 0", "0 -1 0 0 0", "0 0 1 0 0", "0 0 -1 0 0", "0 0 0 1 0", "0 0 0 -1 0", "0 0 0 0 1", "0 0 0 0 -1"} {
		do(t, s, "p = point "+point, "c = join c p")
	}
	return s
}

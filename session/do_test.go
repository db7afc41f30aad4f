package session

import (
	"fmt"
	"strings"
	"testing"

	"raycone/api"
	"raycone/poly"
)

// P221: which errors there are.
func TestErrorsOfDo(t *testing.T) {
	s := many(t)
	do(t, s, "a = intervals 0 2 -1 1", "b = point 5")
	before := s.Journal()
	for line, want := range map[string]error{
		"a = meet a z":                           api.ErrName,
		"a = meet z a":                           api.ErrName,
		"a = join z z":                           api.ErrName,
		"a = widen a y":                          api.ErrName,
		"a = forget z 0":                         api.ErrName,
		"a = forget z 9":                         api.ErrName,
		"drop z":                                 api.ErrName,
		"z = meet z z":                           api.ErrName,
		"drop undo":                              api.ErrName,
		"a = point 1 2 3 4 5 6":                  api.ErrBound,
		"a = intervals 1 2 1 2 1 2 1 2 1 2 1 2":  api.ErrBound,
		"a = intervals 2 1 1 2 1 2 1 2 1 2 1 2":  api.ErrBound,
		"a = point" + strings.Repeat(" 7", 9999): api.ErrBound,
		"a = meet a b":                           api.ErrShape,
		"a = join b a":                           api.ErrShape,
		"a = widen a b":                          api.ErrShape,
		"a = forget a 2":                         api.ErrShape,
		"b = forget b 1":                         api.ErrShape,
		// more rows than are handed in: ahead of unlike dimensions
		"a = meet c c":   api.ErrBound,
		"a = join c a":   api.ErrBound,
		"a = widen a c":  api.ErrBound,
		"a = forget c 9": api.ErrBound,
	} {
		if err := s.Do(line); err != want {
			t.Errorf("%.40q: %v, not %v", line, err, want)
		}
	}
	if got := s.Journal(); got != before {
		t.Errorf("%q", got)
	}
	is(t, s, "a", 2, "-x0 >= -2\n-x1 >= -1\nx1 >= -1\nx0 >= 0\n")
	is(t, s, "b", 1, "x0 = 5\n")
}

// P221: what comes may be too great to be told, though what it is made of can be handed in: five points far apart, a row through which has numbers above MaxTold.
func TestTooGreat(t *testing.T) {
	s := begun(t, "a = point 9999 1 7 -3 2", "b = point 5 9998 -9 4 1", "a = join a b", "b = point 1 -7 9997 8 3", "a = join a b", "c = point -2 5 3 9991 6", "b = point 4 8 -1 2 9989", "b = join b c")
	for _, name := range s.Names() {
		if p, err := s.Get(name); err != nil || poly.Valid(p) != nil {
			t.Error(name, p, err)
		}
	}
	if err := s.Do("c = join a b"); err != api.ErrBound {
		t.Error(err)
	}
	is(t, s, "c", 5, "x0 = -2\nx1 = 5\nx2 = 3\nx3 = 9991\nx4 = 6\n")
}

// P221: MaxLines commands, of which each undo takes one back.
func TestMaxLines(t *testing.T) {
	s := New()
	for i := range api.MaxLines {
		do(t, s, fmt.Sprint("a = point ", i))
	}
	full := func() {
		t.Helper()
		for _, line := range []string{"a = point 1", "drop a", "drop z", "a = meet a z", "a = point 1 2 3 4 5 6", "a = forget a 1"} {
			if err := s.Do(line); err != api.ErrBound {
				t.Errorf("%q: %v", line, err)
			}
		}
		if err := s.Do("a = box"); err != api.ErrText {
			t.Error(err)
		}
	}
	full()
	is(t, s, "a", 1, "x0 = 199\n")
	do(t, s, "undo", "drop a")
	full()
	do(t, s, "undo", "undo")
	is(t, s, "a", 1, "x0 = 197\n")
	if err := s.Do("drop z"); err != api.ErrName {
		t.Error(err)
	}
	do(t, s, "drop a", "a = point 7")
	full()
	for range api.MaxLines {
		do(t, s, "undo")
	}
	if err := s.Do("undo"); err != api.ErrNone || len(s.Names()) > 0 || s.Journal() != "" {
		t.Error(err, s.Names(), s.Journal())
	}
}

// P221: undo takes back what was done last, and is not there to be taken back.
func TestUndo(t *testing.T) {
	s := New()
	if err := s.Do("undo"); err != api.ErrNone {
		t.Error(err)
	}
	do(t, s, "a = point 1", "a = point 2", "drop a", "b = point 3", "a = point 4")
	for _, want := range []string{"a b 4", "b", "", "a 2", "a 1"} {
		got := strings.Join(s.Names(), " ")
		if p, err := s.Get("a"); err == nil {
			got += fmt.Sprint(" ", p.Rows[0].B)
		}
		if got != want {
			t.Errorf("%q, not %q", got, want)
		}
		do(t, s, "undo")
	}
	if err := s.Do("undo"); err != api.ErrNone {
		t.Error(err)
	}
	// what was wrong is not there either
	do(t, s, "a = point 1")
	if s.Do("a = point 1 2 3 4 5 6") == nil || s.Do("drop z") == nil || s.Do("z") == nil {
		t.Error("no errors")
	}
	do(t, s, "undo")
	if len(s.Names()) > 0 {
		t.Error(s.Names())
	}
}

// P221: names rise; what is not there has none.
func TestNamesAndGet(t *testing.T) {
	s := New()
	if len(s.Names()) > 0 {
		t.Error(s.Names())
	}
	do(t, s, "b = point 1", "ab = point 1", "c = point 1", "a = point 1", "abc = point 1", "b = point 2", "drop c")
	if got := strings.Join(s.Names(), " "); got != "a ab abc b" {
		t.Error(got)
	}
	for _, name := range []string{"", "c", "z", "A", "a ", "ab c", "abcdefghi", "1"} {
		if p, err := s.Get(name); err != api.ErrName || p.Dim != 0 || p.Rows != nil {
			t.Errorf("%q: %v, %v", name, p, err)
		}
	}
}

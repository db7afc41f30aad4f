package session

import (
	"errors"
	"strings"
	"testing"

	"raycone/api"
)

// P224: the commands done and not undone, and a session made of them.
func TestJournal(t *testing.T) {
	s := New()
	if got := s.Journal(); got != "" {
		t.Errorf("%q", got)
	}
	do(t, s, "a = point 1 2", "b = point 3 4", "undo", "b = intervals 0 1 2 2", "c = join a b", "drop b")
	if s.Do("b = meet a b") == nil || s.Do("x") == nil {
		t.Error("no errors")
	}
	want := "a = point 1 2\nb = intervals 0 1 2 2\nc = join a b\ndrop b\n"
	if got := s.Journal(); got != want {
		t.Errorf("%q", got)
	}
	o, n, err := Open(want)
	if err != nil || n != 4 || o.Journal() != want {
		t.Fatal(n, err)
	}
	worked(t, o, 0)
	for _, name := range []string{"a", "b", "c"} {
		p, err := s.Get(name)
		q, err2 := o.Get(name)
		if fields(p) != fields(q) || err != err2 {
			t.Error(name, p, q, err, err2)
		}
	}
	// what was opened can be taken back, and goes on alone
	do(t, o, "undo", "undo", "d = point 9")
	if got := o.Journal(); got != "a = point 1 2\nb = intervals 0 1 2 2\nd = point 9\n" {
		t.Errorf("%q", got)
	}
	if got := strings.Join(o.Names(), " ") + ", " + strings.Join(s.Names(), " "); got != "a b d, a c" {
		t.Error(got)
	}
	if got := s.Journal(); got != want {
		t.Errorf("%q", got)
	}
}

// P224: at which line a text is none.
func TestErrorsOfOpen(t *testing.T) {
	ok := "a = point 1\n"
	for _, c := range []struct {
		text string
		at   int
		err  error
	}{
		{"a = point 1", 0, api.ErrText},
		{"\n", 0, api.ErrText},
		{" ", 0, api.ErrText},
		{"undo\n", 0, api.ErrText},
		{"undo", 0, api.ErrText},
		{ok + "undo\n" + ok, 1, api.ErrText},
		{ok + ok + "a = point 1", 2, api.ErrText},
		{ok + ok + "\n" + ok, 2, api.ErrText},
		{ok + "\n", 1, api.ErrText},
		{ok + "drop z", 1, api.ErrText}, // it lacks its end, ahead of what Do tells
		{ok + "a = point 1 2 3 4 5 6", 1, api.ErrText},
		{ok + "drop z\n", 1, api.ErrName},
		{"drop a\n" + ok, 0, api.ErrName},
		{ok + "drop a\ndrop a\n", 2, api.ErrName},
		{ok + "b = meet a c\nundo", 1, api.ErrName},
		{ok + "b = point 1 2\na = join a b\n", 2, api.ErrShape},
		{ok + "a = point 1 2 3 4 5 6\n", 1, api.ErrBound},
		{"a = point 1\r\n", 0, api.ErrText},
		{ok + "a = box\nundo\n", 1, api.ErrText},
		{strings.Repeat(ok, api.MaxLines+1), api.MaxLines, api.ErrBound},
		{strings.Repeat(ok, api.MaxLines) + "drop z\n", api.MaxLines, api.ErrBound},
		{strings.Repeat(ok, api.MaxLines) + "x\n", api.MaxLines, api.ErrText},
		{strings.Repeat(ok, api.MaxLines) + "undo\n", api.MaxLines, api.ErrText},
		{strings.Repeat(ok, api.MaxLines) + "drop a", api.MaxLines, api.ErrText},
		{strings.Repeat("\n", 1<<20), 0, api.ErrText},
		{strings.Repeat("a", 1<<20), 0, api.ErrText},
	} {
		s, n, err := Open(c.text)
		var f *api.Fault
		if s != nil || n != 0 || !errors.As(err, &f) || f.At != c.at || f.Err != c.err {
			t.Errorf("%.60q: %v, %d, %v", c.text, s, n, err)
		}
	}
}

// P224: nothing is a journal, and so is one of MaxLines commands.
func TestEdgesOfOpen(t *testing.T) {
	s, n, err := Open("")
	if s == nil || n != 0 || err != nil || len(s.Names()) > 0 || s.Journal() != "" {
		t.Fatal(n, err)
	}
	do(t, s, "a = point 1")
	text := strings.Repeat("a = point 1\ndrop a\n", api.MaxLines/2)
	s, n, err = Open(text)
	if n != api.MaxLines || err != nil || s.Journal() != text {
		t.Fatal(n, err)
	}
	if err := s.Do("a = point 1"); err != api.ErrBound {
		t.Error(err)
	}
	do(t, s, "undo")
	is(t, s, "a", 1, "x0 = 1\n")
}

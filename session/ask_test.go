package session

import (
	"testing"

	"raycone/api"
)

// P222: what is answered.
func TestAsk(t *testing.T) {
	s := begun(t, "a = intervals 0 2 -1 1", "b = point 5 0", "c = join a b", "d = meet a b", "e = point 5 0", "f = intervals 1 0", "g = intervals 1 0 0 0", "h = point 5")
	for _, q := range [][2]string{
		{"empty a", "no"}, {"empty d", "yes"}, {"empty b", "no"},
		{"within a c", "yes"}, {"within c a", "no"}, {"within a a", "yes"}, {"within d a", "yes"}, {"within a d", "no"}, {"within d d", "yes"}, {"within b e", "yes"},
		{"same a a", "yes"}, {"same a c", "no"}, {"same c a", "no"}, {"same b e", "yes"}, {"same d a", "no"}, {"same d g", "yes"},
		{"same d f", "no"}, {"same b h", "no"},
		{"rows a", "4"}, {"rows b", "2"}, {"rows c", "5"}, {"rows d", "1"}, {"rows h", "1"},
		{"text a", "-x0 >= -2\n-x1 >= -1\nx1 >= -1\nx0 >= 0\n"}, {"text b", "x0 = 5\nx1 = 0\n"}, {"text d", "0 >= 1\n"}, {"text f", "0 >= 1\n"},
	} {
		asked(t, s, q[0], q[1])
	}
	do(t, s, "a = forget a 0", "a = forget a 1", "text = point 1", "within = point 1")
	asked(t, s, "text a", "")
	asked(t, s, "rows a", "0")
	asked(t, s, "empty a", "no")
	asked(t, s, "text text", "x0 = 1\n")
	asked(t, s, "same text within", "yes")
	asked(t, s, "within within text", "yes")
	asked(t, s, "same b a", "no")
	// all points of one variable, and of two
	do(t, s, "h = forget h 0")
	asked(t, s, "same a h", "no")
	asked(t, s, "same h h", "yes")
}

// same is told of each number of a row.
func TestSame(t *testing.T) {
	s := begun(t, "a = intervals 0 2 0 2", "b = intervals 0 2 0 3", "c = intervals 0 2 -1 2", "d = intervals 2 2 0 2", "e = point 2 2", "f = point 2 1")
	do(t, s, "p = point 3 3", "g = join a p", "p = point 3 2", "h = join a p", "i = widen a b", "j = intervals 0 2 0 2")
	names := s.Names()
	for _, x := range names {
		for _, y := range names {
			one, err := s.Get(x)
			other, err2 := s.Get(y)
			if err != nil || err2 != nil {
				t.Fatal(err, err2)
			}
			want := "no"
			if fields(one) == fields(other) {
				want = "yes"
			}
			asked(t, s, "same "+x+" "+y, want)
		}
	}
	asked(t, s, "same a j", "yes")
	asked(t, s, "same p h", "no")
}

// P222: which errors there are.
func TestErrorsOfAsk(t *testing.T) {
	s := many(t)
	do(t, s, "a = intervals 0 2 -1 1", "b = point 5")
	for _, line := range []string{
		"", " ", "a", " a", " a b", "empty", "empty ", "empty a ", "empty  a", " empty a", "empty a b", "empty A", "empty 1", "Empty a", "empty abcdefghi", "empty a\n", "empty a1", "emptya",
		"within", "within a", "within a ", "within a b c", "within a  b", "within a B", "within A b", "within a b ", "same", "same a", "same a b a", "same a 1", "same abcdefghi a",
		"rows", "rows a b", "rows 1", "rows a\n", "text", "text ", "text a b", "text a c", "text A", "text a\x00", "texts a", "meet a b", "undo", "drop a", "a = point 1", "all", "names", "get a", "forget a 1",
	} {
		if got, err := s.Ask(line); got != "" || err != api.ErrText {
			t.Errorf("%q: %q, %v", line, got, err)
		}
	}
	for line, want := range map[string]error{
		"empty z": api.ErrName, "text z": api.ErrName, "rows z": api.ErrName, "within a z": api.ErrName, "within z a": api.ErrName, "same z z": api.ErrName, "same a z": api.ErrName, "text zzzzzzzz": api.ErrName,
		"within a b": api.ErrShape, "within b a": api.ErrShape,
		"empty c": api.ErrBound, "text c": api.ErrBound, "within c c": api.ErrBound, "within a c": api.ErrBound, "within c b": api.ErrBound,
	} {
		if got, err := s.Ask(line); got != "" || err != want {
			t.Errorf("%q: %q, %v", line, got, err)
		}
	}
	worked(t, s, 0)
	asked(t, s, "rows c", "32")
	asked(t, s, "same c c", "yes")
	asked(t, s, "same c a", "no")
	worked(t, s, 3)
}

// P222: numbers may be too great for a text, however few rows there are.
func TestGreatNumbers(t *testing.T) {
	s := begun(t, "a = point 9999 1 7 -3 2", "b = point 5 9998 -9 4 1", "a = join a b", "b = point 1 -7 9997 8 3", "a = join a b", "b = point -2 5 3 9991 6", "a = join a b")
	if got, err := s.Ask("text a"); got != "" || err != api.ErrBound {
		t.Errorf("%q, %v", got, err)
	}
	asked(t, s, "rows a", "6")
}

// P222: an answer is kept until one of its names changes, and no longer.
func TestAsked(t *testing.T) {
	s := begun(t, "a = point 1 1", "b = intervals 0 1 0 1", "c = point 7 7")
	worked(t, s, 0)
	questions := []string{"empty a", "within a b", "within b a", "same b c", "rows c", "text b", "text a", "within a a"}
	ask := func(want int) {
		t.Helper()
		for range 2 {
			for _, q := range questions {
				if _, err := s.Ask(q); err != nil {
					t.Fatal(q, err)
				}
			}
		}
		worked(t, s, want)
		worked(t, s, 0)
	}
	ask(8)
	ask(0)
	do(t, s, "c = point 7 7") // the same again, but done
	ask(2)
	do(t, s, "a = meet a b")
	ask(5)
	do(t, s, "b = join a b")
	ask(4)
	do(t, s, "undo")
	ask(4)
	do(t, s, "d = forget a 1")
	ask(0)
	do(t, s, "drop d")
	ask(0)
	do(t, s, "undo", "undo")
	ask(0)
	do(t, s, "drop c", "c = point 8 8")
	ask(2)
	do(t, s, "undo", "undo")
	ask(2)
	asked(t, s, "rows c", "2")
	// what is wrong leaves all as it is
	if s.Do("a = meet a z") == nil || s.Do("a = forget a 2") == nil || s.Do("drop z") == nil || s.Do("a = point 1 2 3 4 5 6") == nil || s.Do("a") == nil {
		t.Error("no errors")
	}
	ask(0)
	// what has an error is no answer that was worked out
	do(t, s, "d = point 1")
	for _, q := range []string{"within a d", "empty z", "text", ""} {
		if got, err := s.Ask(q); got != "" || err == nil {
			t.Error(q, got, err)
		}
	}
	worked(t, s, 0)
}

// P222: what was dropped and is there again is asked anew; what is dropped is not answered any more.
func TestDropped(t *testing.T) {
	s := begun(t, "a = point 1", "b = point 2")
	asked(t, s, "text a", "x0 = 1\n")
	asked(t, s, "within a b", "no")
	do(t, s, "drop a")
	for _, q := range []string{"text a", "within a b"} {
		if got, err := s.Ask(q); got != "" || err != api.ErrName {
			t.Error(q, got, err)
		}
	}
	do(t, s, "a = point 2")
	asked(t, s, "text a", "x0 = 2\n")
	asked(t, s, "within a b", "yes")
	do(t, s, "undo", "undo")
	asked(t, s, "text a", "x0 = 1\n")
	asked(t, s, "within a b", "no")
	worked(t, s, 6)
}

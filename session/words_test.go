package session

import (
	"strings"
	"testing"

	"raycone/api"
)

// P220: what each command makes.
func TestCommands(t *testing.T) {
	s := begun(t, "a = intervals 0 2 -1 1", "b = point 5 0")
	is(t, s, "a", 2, "-x0 >= -2\n-x1 >= -1\nx1 >= -1\nx0 >= 0\n")
	is(t, s, "b", 2, "x0 = 5\nx1 = 0\n")
	do(t, s, "c = join a b", "d = meet a b", "e = meet a c", "f = forget c 1", "g = widen a c", "h = widen c a")
	is(t, s, "c", 2, "-x0 - 3 x1 >= -5\n-x0 + 3 x1 >= -5\n-x1 >= -1\nx1 >= -1\nx0 >= 0\n")
	is(t, s, "d", 2, "0 >= 1\n")
	is(t, s, "e", 2, "-x0 >= -2\n-x1 >= -1\nx1 >= -1\nx0 >= 0\n")
	is(t, s, "f", 2, "-x0 >= -5\nx0 >= 0\n")
	is(t, s, "g", 2, "-x1 >= -1\nx1 >= -1\nx0 >= 0\n")
	is(t, s, "h", 2, "-x0 - 3 x1 >= -5\n-x0 + 3 x1 >= -5\n-x1 >= -1\nx1 >= -1\nx0 >= 0\n")
	do(t, s, "drop a")
	if got := strings.Join(s.Names(), " "); got != "b c d e f g h" {
		t.Error(got)
	}
	do(t, s, "undo")
	is(t, s, "a", 2, "-x0 >= -2\n-x1 >= -1\nx1 >= -1\nx0 >= 0\n")
	// a name may stand for what it is made of, and be a word of a command
	do(t, s, "a = join a b", "drop = point 1 1", "undo = forget drop 0", "point = meet undo drop", "drop drop")
	is(t, s, "a", 2, "-x0 - 3 x1 >= -5\n-x0 + 3 x1 >= -5\n-x1 >= -1\nx1 >= -1\nx0 >= 0\n")
	is(t, s, "undo", 2, "x1 = 1\n")
	is(t, s, "point", 2, "x0 = 1\nx1 = 1\n")
}

// P220: intervals are pairs, of which the first bounds from below.
func TestIntervals(t *testing.T) {
	s := begun(t, "a = intervals 3 3", "b = intervals 4 3", "c = intervals -9999 9999 0 0", "d = intervals 0 1 1 0 2 2", "e = intervals 1 2 1 2 1 2 1 2 1 2")
	is(t, s, "a", 1, "x0 = 3\n")
	is(t, s, "b", 1, "0 >= 1\n")
	is(t, s, "c", 2, "x1 = 0\n-x0 >= -9999\nx0 >= -9999\n")
	is(t, s, "d", 3, "0 >= 1\n")
	is(t, s, "e", 5, "-x0 >= -2\n-x1 >= -2\n-x2 >= -2\n-x3 >= -2\n-x4 >= -2\nx4 >= 1\nx3 >= 1\nx2 >= 1\nx1 >= 1\nx0 >= 1\n")
}

// P220: numbers and names that are none, blanks too many or too few.
func TestNoCommand(t *testing.T) {
	s := begun(t, "a = intervals 0 2 -1 1", "b = point 5 0")
	journal := s.Journal()
	for _, line := range []string{
		"", " ", "a", "a =", "a = ", "= point 1", " = point 1", "a point 1", "a = box 1 2", "a = undo", "a = drop b", "a = a", "a := point 1", "a == point 1",
		"a = Point 1", "a = POINT 1", "a = points 1", "a = empty a", "a = same a b",
		"a = point", "a = point ", "a = point x", "a = point 1 ", "a = point 1  2", "a = point  1", " a = point 1", "a  = point 1", "a =  point 1", "a= point 1", "a =point 1",
		"a = point 1\n", "a = point 1\t2", "a = point 1\r", "a\n= point 1", "\na = point 1", "a = point 1\nb = point 1", "a = point 1\x00",
		"a = point 01", "a = point 00", "a = point -0", "a = point -01", "a = point -", "a = point --1", "a = point +1", "a = point 1-", "a = point 10000", "a = point -10000", "a = point 00001", "a = point 1.0", "a = point 1e2", "a = point 0x1", "a = point 1_0", "a = point :", "a = point 1:", "a = point /", "a = point -/9", "a = point ٣",
		"a = intervals", "a = intervals ", "a = intervals 1", "a = intervals 1 2 3", "a = intervals 01 2", "a = intervals 1 -0", "a = intervals 1 2 3 4 5 6 7 8 9", "a = intervals 1 2 a b",
		"A = point 1", "a1 = point 1", "ä = point 1", "a_ = point 1", "{ = point 1", "` = point 1", "abcdefghi = point 1", "a b = point 1",
		"a = meet a", "a = meet a b b", "a = meet a ", "a = meet", "a = meet a B", "a = meet A b", "a = meet a 1", "a = join a", "a = join a b a", "a = join a abcdefghi", "a = widen a", "a = widen a b a", "a = widen a b ", "meet a b", "join a b", "widen a b", "forget a 1", "point 1", "intervals 1 2",
		"a = forget a", "a = forget a -1", "a = forget a -0", "a = forget a 00", "a = forget a 01", "a = forget a 10000", "a = forget a b", "a = forget 1 a", "a = forget A 1", "a = forget a 0 1", "a = forget a 0 ", "a = forget 0",
		"drop", "drop ", "drop a b", "drop a ", "drop  a", " drop a", "drop A", "drop abcdefghi", "drop 1", "Drop a", "drop a\n",
		"undo ", " undo", "undo a", "undo 1", "Undo", "undo\n", "empty a", "text a", "within a b",
	} {
		if err := s.Do(line); err != api.ErrText {
			t.Errorf("%q: %v", line, err)
		}
	}
	if got := s.Journal(); got != journal {
		t.Errorf("%q", got)
	}
}

// P220: names of 1 to 8 letters, numbers of at most four digits.
func TestEdgesOfWords(t *testing.T) {
	s := begun(t, "a = point 0 -1 9999 -9999", "z = point 1", "abcdefgh = point -1000", "zzzzzzzz = point 10 -10", "x = forget zzzzzzzz 0", "x = forget x 1")
	is(t, s, "a", 4, "x0 = 0\nx1 = -1\nx2 = 9999\nx3 = -9999\n")
	is(t, s, "abcdefgh", 1, "x0 = -1000\n")
	is(t, s, "x", 2, "")
	for _, v := range []string{"2", "10", "9999"} {
		if err := s.Do("x = forget x " + v); err != api.ErrShape {
			t.Error(v, err)
		}
	}
}

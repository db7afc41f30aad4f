package session

import (
	"fmt"
	"slices"
	"sync"
	"testing"

	"raycone/api"
)

// P223: texts of all names, and `?` where there is none.
func TestAll(t *testing.T) {
	for workers := 1; workers <= api.Workers; workers++ {
		s := many(t)
		do(t, s, "b = intervals 0 1", "a = point 1", "d = intervals 1 0", "e = forget a 0", "p = point 3 4")
		want := []string{"x0 = 1\n", "-x0 >= -1\nx0 >= 0\n", "?", "0 >= 1\n", "", "x0 = 3\nx1 = 4\n"}
		for range 2 {
			if got, err := s.All(workers); !slices.Equal(got, want) || err != nil {
				t.Errorf("%d: %q, %v", workers, got, err)
			}
		}
		do(t, s, "drop b", "ab = point 9")
		want[1] = "x0 = 9\n"
		if got, err := s.All(workers); !slices.Equal(got, want) || err != nil {
			t.Errorf("%d: %q, %v", workers, got, err)
		}
	}
}

// P223: none, and as many as there can be.
func TestNoneAndMany(t *testing.T) {
	s := New()
	for workers := 1; workers <= api.Workers; workers++ {
		if got, err := s.All(workers); len(got) > 0 || err != nil {
			t.Error(workers, got, err)
		}
	}
	worked(t, s, 0)
	var want []string
	for i := range api.MaxLines {
		do(t, s, fmt.Sprintf("%c%c = point %d", 'a'+i/26, 'a'+i%26, i))
		want = append(want, fmt.Sprintf("x0 = %d\n", i))
	}
	if got, err := s.All(api.Workers); !slices.Equal(got, want) || err != nil {
		t.Errorf("%q, %v", got, err)
	}
	worked(t, s, api.MaxLines)
}

// P223: workers from 1 to 16.
func TestWorkers(t *testing.T) {
	for _, s := range []*Session{New(), begun(t, "a = point 1")} {
		for _, workers := range []int{0, -1, -1 << 63, 17, 18, 1 << 62} {
			if got, err := s.All(workers); got != nil || err != api.ErrShape {
				t.Error(workers, got, err)
			}
		}
		worked(t, s, 0)
	}
}

// P223, P222: it says what Ask says: what was answered is taken, what is worked out is kept.
func TestAllIsAsked(t *testing.T) {
	s := many(t)
	do(t, s, "a = point 1", "b = point 2")
	asked(t, s, "text a", "x0 = 1\n")
	worked(t, s, 1)
	all := func(want int) {
		t.Helper()
		if _, err := s.All(3); err != nil {
			t.Error(err)
		}
		worked(t, s, want)
	}
	all(2) // b and p: c has none
	all(0)
	asked(t, s, "text b", "x0 = 2\n")
	asked(t, s, "text p", "x0 = 0\nx1 = 0\nx2 = 0\nx3 = 0\nx4 = -1\n")
	worked(t, s, 0)
	do(t, s, "b = point 3")
	all(1)
	do(t, s, "undo")
	all(1)
	do(t, s, "c = point 4")
	all(1)
	asked(t, s, "rows a", "1")
	worked(t, s, 1)
}

// P2: sessions side by side do not see each other.
func TestSideBySide(t *testing.T) {
	var all sync.WaitGroup
	for i := range 8 {
		all.Go(func() {
			s := New()
			for k := range 40 {
				if err := s.Do(fmt.Sprintf("%c = point %d %d", 'a'+k%20, i, k)); err != nil {
					t.Error(err)
				}
				got, err := s.All(1 + (i+k)%api.Workers)
				if err != nil || len(got) != min(k+1, 20) || got[k%20] != fmt.Sprintf("x0 = %d\nx1 = %d\n", i, k) {
					t.Error(i, k, got, err)
				}
			}
			if n := s.Asked(); n != 40 {
				t.Error(n)
			}
		})
	}
	all.Wait()
}

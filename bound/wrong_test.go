package bound

import (
	"math"
	"testing"

	"raycone/api"
)

func TestFirst(t *testing.T) {
	for _, c := range []struct {
		l    []error
		want error
	}{
		{nil, nil}, {[]error{nil}, nil}, {[]error{nil, nil}, nil}, {[]error{api.ErrShape}, api.ErrShape}, {[]error{nil, api.ErrShape, api.ErrBound}, api.ErrShape}, {[]error{api.ErrBound, nil, api.ErrShape}, api.ErrBound}, {[]error{nil, nil, api.ErrOrder}, api.ErrOrder},
	} {
		if err := First(c.l...); err != c.want {
			t.Error(c.l, err)
		}
	}
}

func TestNumber(t *testing.T) {
	for _, c := range []struct {
		n    int
		want error
	}{
		{0, nil}, {api.MaxBound, nil}, {-api.MaxBound, nil}, {api.MaxBound + 1, api.ErrBound}, {-api.MaxBound - 1, api.ErrBound}, {math.MinInt, api.ErrBound},
	} {
		if err := Number(c.n); err != c.want {
			t.Error(c.n, err)
		}
	}
}

func TestVariable(t *testing.T) {
	for _, c := range []struct {
		x, first, last int
		want           error
	}{
		{0, 0, 3, nil}, {3, 0, 3, nil}, {4, 0, 3, api.ErrShape}, {-1, 0, 3, api.ErrShape}, {0, 1, 3, api.ErrShape}, {1, 1, 1, nil}, {0, 0, -1, api.ErrShape}, {math.MinInt, 0, 3, api.ErrShape}, {math.MaxInt, 0, 3, api.ErrShape},
	} {
		if err := Variable(c.x, c.first, c.last); err != c.want {
			t.Error(c, err)
		}
	}
}

func TestPoint(t *testing.T) {
	far := api.MaxBound + 1
	for _, c := range []struct {
		x    []int
		n    int
		want error
	}{
		{nil, 0, nil}, {[]int{}, 0, nil}, {[]int{1, api.MaxBound}, 2, nil}, {[]int{1}, 2, api.ErrShape}, {[]int{1, 2}, 1, api.ErrShape}, {nil, 1, api.ErrShape}, {[]int{far}, 2, api.ErrShape}, {[]int{0, far}, 2, api.ErrBound}, {[]int{-far, 0}, 2, api.ErrBound}, {[]int{math.MinInt}, 1, api.ErrBound},
	} {
		if err := Point(c.x, c.n); err != c.want {
			t.Error(c, err)
		}
	}
}

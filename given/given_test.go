// Package given tests what the given packages api and plain tell (P5): it stands apart, so that their folders stay as they are.
package given

import (
	"errors"
	"fmt"
	"testing"

	"raycone/api"
	"raycone/plain"
)

func TestBounds(t *testing.T) {
	for _, c := range []struct {
		name      string
		got, want int
	}{
		{"MaxEntry", api.MaxEntry, 2147483648},
		{"MaxTold", api.MaxTold, 4611686018427387904},
		{"MaxDim", api.MaxDim, 5},
		{"MaxRows", api.MaxRows, 24},
		{"MaxMany", api.MaxMany, 60},
		{"MaxVars", api.MaxVars, 4},
		{"MaxBound", api.MaxBound, 1099511627776},
		{"MaxModule", api.MaxModule, 1048576},
		{"MaxValue", api.MaxValue, 1099511627776},
		{"MaxArray", api.MaxArray, 16},
		{"MaxNames", api.MaxNames, 12},
		{"MaxName", api.MaxName, 8},
		{"MaxText", api.MaxText, 4000},
		{"MaxDeep", api.MaxDeep, 12},
		{"MaxPoints", api.MaxPoints, 120},
		{"MaxFuel", api.MaxFuel, 20000},
		{"MaxInput", api.MaxInput, 40},
		{"MaxProcs", api.MaxProcs, 6},
		{"MaxLines", api.MaxLines, 200},
		{"Workers", api.Workers, 16},
	} {
		if c.got != c.want {
			t.Errorf("%s is %d, want %d", c.name, c.got, c.want)
		}
	}
}

func TestErrors(t *testing.T) {
	for i, c := range []struct {
		err  error
		text string
	}{
		{api.ErrText, "raycone: text"},
		{api.ErrBound, "raycone: bound"},
		{api.ErrShape, "raycone: shape"},
		{api.ErrEmpty, "raycone: empty"},
		{api.ErrName, "raycone: name"},
		{api.ErrNone, "raycone: none"},
		{api.ErrOrder, "raycone: order"},
		{api.ErrProof, "raycone: proof"},
	} {
		if c.err.Error() != c.text {
			t.Errorf("text %q, want %q", c.err, c.text)
		}
		if code, at := plain.Code(c.err); code != i+1 || at != -1 {
			t.Errorf("%v bare: code %d at %d", c.err, code, at)
		}
		fault := &api.Fault{At: 7, Err: c.err}
		if code, at := plain.Code(fault); code != i+1 || at != 7 || fault.Error() != c.text {
			t.Errorf("%v in a fault: code %d at %d, text %q", c.err, code, at, fault)
		}
		if code, at := plain.Code(fmt.Errorf("more: %w", fault)); code != i+1 || at != 7 {
			t.Errorf("%v wrapped: code %d at %d", c.err, code, at)
		}
	}
}

func TestOtherErrors(t *testing.T) {
	if code, at := plain.Code(nil); code != 0 || at != -1 {
		t.Errorf("nil: code %d at %d", code, at)
	}
	if code, at := plain.Code(errors.New("raycone: text")); code != -1 || at != -1 {
		t.Errorf("another error of the same text: code %d at %d", code, at)
	}
}

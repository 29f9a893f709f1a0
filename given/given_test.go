// Package given holds the tests of what is given: packages api and plain.
package given

import (
	"errors"
	"testing"

	"bargelock/api"
	"bargelock/plain"
)

// P5

func TestBounds(t *testing.T) {
	for _, x := range []struct {
		name      string
		got, want int
	}{
		{"MaxNodes", api.MaxNodes, 16},
		{"MaxSlots", api.MaxSlots, 32},
		{"MaxTime", api.MaxTime, 1000000},
		{"MaxNum", api.MaxNum, 1048576},
		{"MaxModes", api.MaxModes, 4},
		{"MaxHistory", api.MaxHistory, 200},
		{"MaxText", api.MaxText, 4000},
		{"MaxBytes", api.MaxBytes, 262144},
		{"MaxScript", api.MaxScript, 80},
		{"Workers", api.Workers, 16},
	} {
		if x.got != x.want {
			t.Error(x.name, x.got, x.want)
		}
	}
}

func TestErrors(t *testing.T) {
	for i, x := range []struct {
		err  error
		text string
	}{
		{api.ErrText, "bargelock: text"},
		{api.ErrBound, "bargelock: bound"},
		{api.ErrShape, "bargelock: shape"},
		{api.ErrNode, "bargelock: node"},
		{api.ErrNone, "bargelock: none"},
		{api.ErrExist, "bargelock: exist"},
		{api.ErrFull, "bargelock: full"},
		{api.ErrSum, "bargelock: sum"},
		{api.ErrLate, "bargelock: late"},
		{api.ErrGap, "bargelock: gap"},
		{api.ErrOff, "bargelock: off"},
	} {
		fault := &api.Fault{At: 3, Err: x.err}
		if x.err.Error() != x.text || fault.Error() != x.text || !errors.Is(fault, x.err) {
			t.Error(x.text, x.err)
		}
		if code, at := plain.Code(x.err); code != i+1 || at != -1 {
			t.Error(x.text, code, at)
		}
		if code, at := plain.Code(fault); code != i+1 || at != 3 {
			t.Error(x.text, code, at)
		}
	}
	if code, at := plain.Code(nil); code != 0 || at != -1 {
		t.Error(code, at)
	}
}

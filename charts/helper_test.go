package charts_test

import (
	"errors"
	"strings"
	"testing"

	"charts/api"
	"charts/charts"
	"charts/plain"
)

// text takes a slash for a line's end, and a point ahead of a line for a blank.
func text(s string) string {
	lines := strings.Split(s, "/")
	for i, l := range lines {
		bare := strings.TrimLeft(l, ".")
		lines[i] = strings.Repeat(" ", len(l)-len(bare)) + bare
	}
	return strings.Join(lines, "\n")
}

// wantFault asks both ways in for the fault: its kind, its line, and nothing beside it.
func wantFault(t *testing.T, s string, e api.Errno, line int) {
	t.Helper()
	got, err := charts.Lower(s)
	var f *api.Fault
	if !errors.As(err, &f) {
		t.Errorf("Lower(%.80q) = %q, %v, want error %d in line %d", s, got, err, e, line)
		return
	}
	if got != "" || f.Err != e || f.Line != line {
		t.Errorf("Lower(%.80q) = %q, %v, want error %d in line %d", s, got, err, e, line)
	}
	for other := api.OK; other <= api.ErrFuel; other++ {
		if errors.Is(err, other) != (other == e) {
			t.Errorf("Lower(%.80q): %v: errors.Is of error %d is %v", s, err, other, other != e)
		}
	}
	if got, pe, pl := plain.Lower(s); got != "" || pe != e || pl != line {
		t.Errorf("plain.Lower(%.80q) = %q, %d, %d, want error %d in line %d", s, got, pe, pl, e, line)
	}
}

func wantLower(t *testing.T, s, want string) {
	t.Helper()
	if got, err := charts.Lower(s); got != want || err != nil {
		t.Errorf("Lower(%q) = %q, %v, want %q", s, got, err, want)
	}
	if got, e, line := plain.Lower(s); got != want || e != api.OK || line != 0 {
		t.Errorf("plain.Lower(%q) = %q, %d, %d, want %q", s, got, e, line, want)
	}
}

// wantChart asks for a text that has no fault.
func wantChart(t *testing.T, s string) {
	t.Helper()
	if _, err := charts.Lower(s); err != nil {
		t.Errorf("Lower(%.80q): %v, want no fault", s, err)
	}
}

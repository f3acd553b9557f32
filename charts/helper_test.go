package charts_test

import (
	"errors"
	"strconv"
	"strings"
	"testing"

	"charts/api"
	"charts/charts"
	"charts/plain"
)

// text takes a slash for a line's end, and a point ahead of a line for a blank.
func text(s string) string {
	lines := strings.Split(s, "/")
	for i, l := range lines {
		bare := strings.TrimLeft(l, ".")
		lines[i] = strings.Repeat(" ", len(l)-len(bare)) + bare
	}
	return strings.Join(lines, "\n")
}

// wantFault asks both ways in for the fault: its kind, its line, and nothing beside it.
func wantFault(t *testing.T, s string, e api.Errno, line int) {
	t.Helper()
	got, err := charts.Lower(s)
	var f *api.Fault
	if !errors.As(err, &f) {
		t.Errorf("Lower(%.80q) = %q, %v, want error %d in line %d", s, got, err, e, line)
		return
	}
	if got != "" || f.Err != e || f.Line != line {
		t.Errorf("Lower(%.80q) = %q, %v, want error %d in line %d", s, got, err, e, line)
	}
	for other := api.OK; other <= api.ErrFuel; other++ {
		if errors.Is(err, other) != (other == e) {
			t.Errorf("Lower(%.80q): %v: errors.Is of error %d is %v", s, err, other, other != e)
		}
	}
	if got, pe, pl := plain.Lower(s); got != "" || pe != e || pl != line {
		t.Errorf("plain.Lower(%.80q) = %q, %d, %d, want error %d in line %d", s, got, pe, pl, e, line)
	}
	wantNoStart(t, s, api.Fault{Err: e, Line: line})
}

// wantNoStart asks for a chart that does not start for the fault that it has.
func wantNoStart(t *testing.T, s string, want api.Fault) {
	t.Helper()
	x, steps, err := charts.Start(s)
	var f *api.Fault
	if x != nil || len(steps) > 0 || !errors.As(err, &f) || *f != want {
		t.Errorf("Start(%.80q) = %v, %v, %v, want error %d in line %d", s, x, steps, err, want.Err, want.Line)
	}
	if x, steps, e, line := plain.Start(s); x != nil || len(steps) > 0 || e != want.Err || line != want.Line {
		t.Errorf("plain.Start(%.80q) = %v, %v, %d, %d, want error %d in line %d", s, x, steps, e, line, want.Err, want.Line)
	}
}

func wantLower(t *testing.T, s, want string) {
	t.Helper()
	if got, err := charts.Lower(s); got != want || err != nil {
		t.Errorf("Lower(%q) = %q, %v, want %q", s, got, err, want)
	}
	if got, e, line := plain.Lower(s); got != want || e != api.OK || line != 0 {
		t.Errorf("plain.Lower(%q) = %q, %d, %d, want %q", s, got, e, line, want)
	}
}

// wantChart asks for a text that has no fault.
func wantChart(t *testing.T, s string) {
	t.Helper()
	if _, err := charts.Lower(s); err != nil {
		t.Errorf("Lower(%.80q): %v, want no fault", s, err)
	}
	if x, steps, err := charts.Start(s); x == nil || len(steps) != 1 || err != nil && !errors.Is(err, api.ErrFuel) {
		t.Errorf("Start(%.80q) = %v, %v, %v, want a session", s, x, steps, err)
	}
}

// told writes steps as the document's examples do.
func told(steps []api.Step) string {
	out := make([]string, len(steps))
	for i, s := range steps {
		head := strings.TrimSpace(s.Event + " " + strconv.FormatUint(s.Time, 10))
		out[i] = head + ": " + strings.Join(s.States, " ")
	}
	return strings.Join(out, "; ")
}

// beside tells the error beside steps, and asks that it is one of just one kind.
func beside(t *testing.T, steps []api.Step, err error) string {
	t.Helper()
	kind, line := api.Tell(err)
	if line != 0 {
		t.Errorf("error %v of a session has a line", err)
	}
	for other := api.ErrLong; other <= api.ErrFuel; other++ {
		if errors.Is(err, other) != (other == kind) {
			t.Errorf("error %v: errors.Is of error %d is %v", err, other, other != kind)
		}
	}
	switch kind {
	case api.OK:
		return told(steps)
	case api.ErrDone:
		return told(steps) + "ErrDone"
	case api.ErrFuel:
		return strings.TrimSpace(told(steps) + " ErrFuel")
	}
	t.Errorf("error %v", err)
	return "error"
}

// play starts a chart, hands in events, parted by blanks, and writes all that is told.
func play(t *testing.T, s, events string) string {
	t.Helper()
	x, steps, err := charts.Start(s)
	if x == nil {
		t.Errorf("Start(%.80q) = no session, %v", s, err)
		return ""
	}
	out := []string{beside(t, steps, err)}
	for _, e := range strings.Fields(events) {
		steps, err = x.Event(e)
		out = append(out, beside(t, steps, err))
	}
	return strings.Join(out, "; ")
}

// playPlain is play by package plain.
func playPlain(s, events string) string {
	x, steps, e, _ := plain.Start(s)
	out := []string{besidePlain(steps, e)}
	for _, name := range strings.Fields(events) {
		steps, e = plain.Event(x, name)
		out = append(out, besidePlain(steps, e))
	}
	return strings.Join(out, "; ")
}

func besidePlain(steps []api.Step, e api.Errno) string {
	ends := map[api.Errno]string{api.OK: "", api.ErrDone: "ErrDone", api.ErrFuel: " ErrFuel"}
	return strings.TrimSpace(told(steps) + ends[e])
}

// wantRun asks for what a chart tells when these events are handed in.
func wantRun(t *testing.T, chart, events, want string) {
	t.Helper()
	s := text(chart)
	if got := play(t, s, events); got != want {
		t.Errorf("%q, %q:\n got %s\nwant %s", chart, events, got, want)
	}
	if got := playPlain(s, events); got != want {
		t.Errorf("package plain: %q, %q:\n got %s\nwant %s", chart, events, got, want)
	}
}

// run is a chart, what is handed in, and what is told.
type run struct{ chart, events, want string }

func wantRuns(t *testing.T, runs []run) {
	t.Helper()
	for _, r := range runs {
		wantRun(t, r.chart, r.events, r.want)
	}
}

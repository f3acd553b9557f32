package charts_test

import (
	"errors"
	"strconv"
	"strings"
	"testing"

	"charts/api"
	"charts/charts"
	"charts/plain"
)

// text takes a slash for a line's end, and a point ahead of a line for a blank.
func text(s string) string {
	lines := strings.Split(s, "/")
	for i, l := range lines {
		bare := strings.TrimLeft(l, ".")
		lines[i] = strings.Repeat(" ", len(l)-len(bare)) + bare
	}
	return strings.Join(lines, "\n")
}

// wantFault asks both ways in for the fault: its kind, its line, and nothing beside it.
func wantFault(t *testing.T, s string, e api.Errno, line int) {
	t.Helper()
	got, err := charts.Lower(s)
	var f *api.Fault
	if !errors.As(err, &f) {
		t.Errorf("Lower(%.80q) = %q, %v, want error %d in line %d", s, got, err, e, line)
		return
	}
	if got != "" || f.Err != e || f.Line != line {
		t.Errorf("Lower(%.80q) = %q, %v, want error %d in line %d", s, got, err, e, line)
	}
	for other := api.OK; other <= api.ErrFuel; other++ {
		if errors.Is(err, other) != (other == e) {
			t.Errorf("Lower(%.80q): %v: errors.Is of error %d is %v", s, err, other, other != e)
		}
	}
	if got, pe, pl := plain.Lower(s); got != "" || pe != e || pl != line {
		t.Errorf("plain.Lower(%.80q) = %q, %d, %d, want error %d in line %d", s, got, pe, pl, e, line)
	}
	wantNoStart(t, s, api.Fault{Err: e, Line: line})
}

// wantNoStart asks for a chart that does not start for the fault that it has.
func wantNoStart(t *testing.T, s string, want api.Fault) {
	t.Helper()
	x, steps, err := charts.Start(s)
	var f *api.Fault
	if x != nil || len(steps) > 0 || !errors.As(err, &f) || *f != want {
		t.Errorf("Start(%.80q) = %v, %v, %v, want error %d in line %d", s, x, steps, err, want.Err, want.Line)
	}
	if x, steps, e, line := plain.Start(s); x != nil || len(steps) > 0 || e != want.Err || line != want.Line {
		t.Errorf("plain.Start(%.80q) = %v, %v, %d, %d, want error %d in line %d", s, x, steps, e, line, want.Err, want.Line)
	}
}

func wantLower(t *testing.T, s, want string) {
	t.Helper()
	if got, err := charts.Lower(s); got != want || err != nil {
		t.Errorf("Lower(%q) = %q, %v, want %q", s, got, err, want)
	}
	if got, e, line := plain.Lower(s); got != want || e != api.OK || line != 0 {
		t.Errorf("plain.Lower(%q) = %q, %d, %d, want %q", s, got, e, line, want)
	}
}

// wantChart asks for a text that has no fault.
func wantChart(t *testing.T, s string) {
	t.Helper()
	if _, err := charts.Lower(s); err != nil {
		t.Errorf("Lower(%.80q): %v, want no fault", s, err)
	}
	if x, steps, err := charts.Start(s); x == nil || len(steps) != 1 || err != nil && !errors.Is(err, api.ErrFuel) {
		t.Errorf("Start(%.80q) = %v, %v, %v, want a session", s, x, steps, err)
	}
}

// told writes steps as the document's examples do.
func told(steps []api.Step) string {
	out := make([]string, len(steps))
	for i, s := range steps {
		head := strings.TrimSpace(s.Event + " " + strconv.FormatUint(s.Time, 10))
		out[i] = head + ": " + strings.Join(s.States, " ")
	}
	return strings.Join(out, "; ")
}

// beside tells the error beside steps, and asks that it is one of just one kind.
func beside(t *testing.T, steps []api.Step, err error) string {
	t.Helper()
	kind, line := api.Tell(err)
	if line != 0 {
		t.Errorf("error %v of a session has a line", err)
	}
	for other := api.ErrLong; other <= api.ErrFuel; other++ {
		if errors.Is(err, other) != (other == kind) {
			t.Errorf("error %v: errors.Is of error %d is %v", err, other, other != kind)
		}
	}
	switch kind {
	case api.OK:
		return told(steps)
	case api.ErrDone:
		return told(steps) + "ErrDone"
	case api.ErrFuel:
		return strings.TrimSpace(told(steps) + " ErrFuel")
	}
	t.Errorf("error %v", err)
	return "error"
}

// reading takes `@` and a number for a reading of the clock; all other words are events.
func reading(word string) (uint64, bool) {
	digits, is := strings.CutPrefix(word, "@")
	raw, err := strconv.ParseUint(digits, 10, 64)
	return raw, is && err == nil
}

// hand hands in an event or a reading of the clock.
func hand(x *charts.Session, word string) ([]api.Step, error) {
	if raw, is := reading(word); is {
		return x.Clock(raw)
	}
	return x.Event(word)
}

// add writes behind what was told what is told now; of a reading that may be nothing.
func add(out []string, word, now string) []string {
	if _, is := reading(word); is && now == "" {
		return out
	}
	return append(out, now)
}

// session starts a chart, hands in events and readings, parted by blanks, and writes all that is told.
func session(t *testing.T, s, do string) (*charts.Session, string) {
	t.Helper()
	x, steps, err := charts.Start(s)
	if x == nil {
		t.Fatalf("Start(%.80q) = no session, %v", s, err)
	}
	out := []string{beside(t, steps, err)}
	for _, word := range strings.Fields(do) {
		steps, err = hand(x, word)
		out = add(out, word, beside(t, steps, err))
	}
	return x, strings.Join(out, "; ")
}

// play is what a session tells.
func play(t *testing.T, s, do string) string {
	t.Helper()
	_, out := session(t, s, do)
	return out
}

// playPlain is play by package plain.
func playPlain(s, do string) string {
	x, steps, e, _ := plain.Start(s)
	out := []string{besidePlain(steps, e)}
	for _, word := range strings.Fields(do) {
		if raw, is := reading(word); is {
			steps, e = plain.Clock(x, raw)
		} else {
			steps, e = plain.Event(x, word)
		}
		out = add(out, word, besidePlain(steps, e))
	}
	return strings.Join(out, "; ")
}

func besidePlain(steps []api.Step, e api.Errno) string {
	ends := map[api.Errno]string{api.OK: "", api.ErrDone: "ErrDone", api.ErrFuel: " ErrFuel"}
	return strings.TrimSpace(told(steps) + ends[e])
}

// wantRun asks for what a chart tells when this is handed in.
func wantRun(t *testing.T, chart, do, want string) {
	t.Helper()
	s := text(chart)
	if got := play(t, s, do); got != want {
		t.Errorf("%q, %q:\n got %s\nwant %s", chart, do, got, want)
	}
	if got := playPlain(s, do); got != want {
		t.Errorf("package plain: %q, %q:\n got %s\nwant %s", chart, do, got, want)
	}
}

// run is a chart, what is handed in, and what is told.
type run struct{ chart, do, want string }

func wantRuns(t *testing.T, runs []run) {
	t.Helper()
	for _, r := range runs {
		wantRun(t, r.chart, r.do, r.want)
	}
}

// waits writes timers: event and time.
func waits(list []api.Wait) string {
	out := make([]string, len(list))
	for i, w := range list {
		out[i] = w.Event + " " + strconv.FormatUint(w.At, 10)
	}
	return strings.Join(out, "; ")
}

// rest is a chart, what is handed in, and behind that the time at hand and the timers that run.
type rest struct {
	chart, do string
	now       uint64
	pending   string
}

func wantRests(t *testing.T, rests []rest) {
	t.Helper()
	for _, r := range rests {
		x, _ := session(t, text(r.chart), r.do)
		if now, pending := x.Now(), waits(x.Pending()); now != r.now || pending != r.pending {
			t.Errorf("P11: %q, %q: at %d: %s\nwant at %d: %s", r.chart, r.do, now, pending, r.now, r.pending)
		}
	}
}

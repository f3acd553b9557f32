package charts_test

import (
	"errors"
	"strings"
	"testing"

	"charts/api"
	"charts/charts"
)

// TestAnyEvent: any text is an event, and stands in its step as it was handed in.
func TestAnyEvent(t *testing.T) {
	x, _, err := charts.Start("state a\n on x to b\nstate b\n")
	if err != nil {
		t.Fatal(err)
	}
	for _, name := range []string{"", " ", "x ", " x", "X", "x\n", "\x00", "\xff\xfe", "to", "on x", "a", "done.a", "done.", "after.1", "after.", "é", strings.Repeat("x", 100000)} {
		steps, err := x.Event(name)
		if err != nil || len(steps) != 1 || steps[0].Event != name || strings.Join(steps[0].States, " ") != "a" {
			t.Errorf("P9: Event(%.20q) = %v, %v", name, steps, err)
		}
	}
	if steps, err := x.Event("x"); err != nil || told(steps) != "x 0: b" {
		t.Errorf("P9: Event = %v, %v", steps, err)
	}
}

// TestEventsOfTheProgram: events that the program itself sends and raises may be handed in, too.
func TestEventsOfTheProgram(t *testing.T) {
	wantRuns(t, []run{
		{"state a/.after 9 to b/state b/", "after.1 after.2", "0: a; after.1 0: a; after.2 0: b"},
		{"state a/.on after.7 to b/state b/", "after.7", "0: a; after.7 0: b"},
		{"state a/.on done.q to b/state b/", "done.q", "0: a; done.q 0: b"},
		{"state a/.on full to b/state b/", "full", "0: a; full 0: b"},
	})
}

// TestEventBehindTheEnd: no steps, and the error that tells of the end, again and again.
func TestEventBehindTheEnd(t *testing.T) {
	wantRuns(t, []run{
		{"final a/", "x y", "0: a; ErrDone; ErrDone"},
		{"state a/.on x to b/final b/", "x x y", "0: a; x 0: b; ErrDone; ErrDone"},
		{"state a/.final b/.on done.a to c/final c/", "x", "0: c; ErrDone"},
		{"state a/.on x do raise x/.on y to a/", "x y x", "0: a; x 0: a ErrFuel; ErrFuel; ErrFuel"},
		{"state a/.enter do raise x/.on x do raise x/", "y", "0: a ErrFuel; ErrFuel"},
		// a final state that is not of depth 0 is no end of the session
		{"state a/.on x to b/.state c/..on y to b/.final b/", "y x y", "0: a c; y 0: a b; x 0: a b; y 0: a b"},
	})
	x, _, _ := charts.Start("final a\n")
	if steps, err := x.Event("x"); len(steps) != 0 || !errors.Is(err, api.ErrDone) || errors.Is(err, api.ErrFuel) {
		t.Errorf("P9: Event behind the end = %v, %v", steps, err)
	}
}

package charts_test

import (
	"errors"
	"strings"
	"testing"

	"charts/api"
	"charts/charts"
)

// TestStartFaults: no session of a text that is no chart. (Each fault of the tests of P2 to P4 is asked of Start, too.)
func TestStartFaults(t *testing.T) {
	for _, c := range []struct {
		text string
		want api.Fault
	}{
		{strings.Repeat("x", api.MaxText+1), api.Fault{Err: api.ErrLong}},
		{"", api.Fault{Err: api.ErrSyntax, Line: 1}},
		{"state a", api.Fault{Err: api.ErrSyntax, Line: 1}},
		{"state a\n\n", api.Fault{Err: api.ErrSyntax, Line: 2}},
		{"state a\n  state b\n", api.Fault{Err: api.ErrTree, Line: 2}},
		{"state a\nparallel p\n history h\n", api.Fault{Err: api.ErrTree, Line: 2}},
		{"state a\nstate a\n", api.Fault{Err: api.ErrName, Line: 2}},
		{"state a\n on x to b\n", api.Fault{Err: api.ErrName, Line: 2}},
	} {
		wantNoStart(t, c.text, c.want)
	}
}

func TestFirstTurn(t *testing.T) {
	x, steps, err := charts.Start("state a\n enter do raise x\n on x to b\nstate b\n")
	if x == nil || err != nil || len(steps) != 1 {
		t.Fatalf("P7: Start = %v, %v, %v", x, steps, err)
	}
	if s := steps[0]; s.Event != "" || s.Time != 0 || strings.Join(s.States, " ") != "b" {
		t.Errorf("P7: the first step is %v", s)
	}
	wantRuns(t, []run{
		// enter lines are done, from the outside inwards, and what they raise is answered
		{"state a/.enter do raise x/.state b/..enter do raise y/..on x to c/.state c/..on y to d/.state d/", "", "0: a d"},
		{"state a/.enter do raise x/.on x to b/state b/.enter do raise y/.on y to c/state c/", "", "0: c"},
		// no event is answered for the start itself
		{"state a/.state b/..enter do raise x/..on x to c/.state c/..on y to b/", "y y", "0: a c; y 0: a c; y 0: a c"},
		{"state a/.final b/.on done.a to c/state c/", "", "0: c"},
		{"final a/.enter do raise x/", "", "0: a"},
	})
}

// TestRaisedInOrder: what is raised is answered in the order in which it was, and behind what was raised ahead.
func TestRaisedInOrder(t *testing.T) {
	wantRuns(t, []run{
		{"state a/.on x do raise p do raise q/.on p to b/.on q to c/state b/.on q to d/state c/state d/", "x", "0: a; x 0: d"},
		{"state a/.on x do raise p do raise q/.on p do raise r/.on q to b/state b/.on r to c/state c/", "x", "0: a; x 0: c"},
		{"state a/.on x do raise p do raise q/.on p do raise r/.on r to b/state b/.on q to c/state c/", "x", "0: a; x 0: b"},
		{"state a/.on x do raise p do raise p do raise p/.on p to b/state b/.on p to c/state c/.on p to d/state d/", "x", "0: a; x 0: d"},
		// what nothing awaits is answered, too, by nothing
		{"state a/.on x do raise p do raise q/.on q to b/state b/", "x", "0: a; x 0: b"},
		// nothing of it is left for the next turn
		{"state a/.on x to b do raise p/state b/.on y to c/state c/.on p to d/state d/", "x y", "0: a; x 0: b; y 0: c"},
	})
}

// TestDone: behind a final state of depth 0 nothing raised is answered.
func TestDone(t *testing.T) {
	wantRuns(t, []run{
		{"state a/.on x to b do raise p/.leave do raise p/final b/.enter do raise p/", "x", "0: a; x 0: b"},
		{"state a/.on x to b do raise p do raise q/state b/.on p to c/final c/.enter do raise p/", "x q", "0: a; x 0: c; ErrDone"},
		// the end is the final state's, whether or not there would be fuel for what is raised
		{"state a/.on x to b" + strings.Repeat(" do raise p", 70) + "/final b/", "x x", "0: a; x 0: b; ErrDone"},
		{"state a/.enter" + strings.Repeat(" do raise p", 70) + "/.on p to b/final b/", "x", "0: b; ErrDone"},
	})
}

// counting is a chart in which `go`, or the start, raises so many events; those that `n` counts lead on to the next state, in a ring.
func counting(n int, head string) string {
	return text("state a/." + head + strings.Repeat(" do raise n", n) + "/.on n to b/state b/.on n to c/state c/.on n to b/")
}

// TestFuel: sixty events a turn, that of the turn among them; the start is none.
func TestFuel(t *testing.T) {
	for _, c := range []struct {
		text, want string
	}{
		{counting(58, "on go"), "0: a; go 0: c; n 0: b"},
		{counting(59, "on go"), "0: a; go 0: b; n 0: c"},
		{counting(60, "on go"), "0: a; go 0: b ErrFuel; ErrFuel"},
		{counting(61, "on go"), "0: a; go 0: b ErrFuel; ErrFuel"},
	} {
		if got := play(t, c.text, "go n"); got != c.want {
			t.Errorf("P7: %q: %s, want %s", c.text, got, c.want)
		}
	}
	for _, c := range []struct {
		text, want string
	}{
		{counting(59, "enter"), "0: b; n 0: c"},
		{counting(60, "enter"), "0: c; n 0: b"},
		{counting(61, "enter"), "0: c ErrFuel; ErrFuel"},
		{counting(62, "enter"), "0: c ErrFuel; ErrFuel"},
	} {
		if got := play(t, c.text, "n"); got != c.want {
			t.Errorf("P7: %q: %s, want %s", c.text, got, c.want)
		}
	}
	wantRuns(t, []run{
		{"state a/.on x do raise x/", "x", "0: a; x 0: a ErrFuel"},
		{"state a/.on x do raise x/", "y x y x", "0: a; y 0: a; x 0: a ErrFuel; ErrFuel; ErrFuel"},
		{"state a/.enter do raise x/.on x do raise x/", "x", "0: a ErrFuel; ErrFuel"},
		// a turn that has no fuel left is over where it is: an even number of moves there and back
		{"state a/.on x to b do raise x/state b/.on x to a do raise x/", "x", "0: a; x 0: a ErrFuel"},
		// what nothing awaits needs fuel, too
		{"state a/.on x" + strings.Repeat(" do raise n", 59) + "/", "x x x", "0: a; x 0: a; x 0: a; x 0: a"},
		{"state a/.on x" + strings.Repeat(" do raise n", 60) + "/", "x", "0: a; x 0: a ErrFuel"},
		// the sixtieth event may still end the session
		{"state a/.on x" + strings.Repeat(" do raise n", 58) + " do raise e do raise n/.on e to f/final f/", "x x", "0: a; x 0: f; ErrDone"},
		{"state a/.on x" + strings.Repeat(" do raise n", 59) + " do raise e/.on e to f/final f/", "x x", "0: a; x 0: a ErrFuel; ErrFuel"},
	})
}

// TestStartTellsFuel: with session and step.
func TestStartTellsFuel(t *testing.T) {
	x, steps, err := charts.Start(counting(61, "enter"))
	if x == nil || len(steps) != 1 || !errors.Is(err, api.ErrFuel) {
		t.Errorf("P7: Start = %v, %v, %v", x, steps, err)
	}
}

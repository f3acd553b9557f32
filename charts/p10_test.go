package charts_test

import (
	"strings"
	"testing"
)

// sends is so many actions that each start a timer.
func sends(n int, action string) string { return strings.Repeat(" do "+action, n) }

// TestFull: twelve timers run; one more does not start, and raises `full`.
func TestFull(t *testing.T) {
	wantRuns(t, []run{
		{"state a/.on x" + sends(12, "send y 1") + "/.on full to b/state b/", "x", "0: a; x 0: a"},
		{"state a/.on x" + sends(13, "send y 1") + "/.on full to b/state b/", "x", "0: a; x 0: b"},
		{"state a/.enter" + sends(12, "send y 1 as i") + "/.on x do send y 1/.on full to b/state b/", "x", "0: a; x 0: b"},
		// one `full` for each that is too many, among what else is raised
		{"state a/.enter" + sends(12, "send y 1") + "/.on x" + sends(3, "send y 1") + "/.on full to b/state b/.on full to c/state c/.on full to d/state d/.on full to e/state e/", "x", "0: a; x 0: d"},
		{"state a/.enter" + sends(12, "send y 1") + "/.on x do raise p do send y 1 do raise q/.on p to b/state b/.on full to c/state c/.on q to d/state d/", "x", "0: a; x 0: d"},
		// a timer that did not start takes no room
		{"state a/.enter" + sends(14, "send y 1 as i") + "/.on full to b/.state c/..on full/..on x to d do cancel i" + sends(12, "send y 1") + "/.state d/..on y do send y 1/state b/", "x y", "0: a c; x 0: a d; y 0: b"},
		// the timer of a move behind a delay counts, and raises `full` like others
		{"state a/.enter" + sends(11, "send y 1") + "/.after 5/.on full to b/state b/", "", "0: a"},
		{"state a/.enter" + sends(12, "send y 1") + "/.after 5/.on full to b/state b/", "", "0: b"},
		{"state a/.enter" + sends(11, "send y 1") + "/.after 5/.after 6/.on full to b/state b/", "", "0: b"},
	})
}

// TestCancel: all timers of that name are stopped, and no others.
func TestCancel(t *testing.T) {
	const room = "/.on y" + " do send z 1 do send z 1 do send z 1 do send z 1 do send z 1 do send z 1" + "/.on full to b/state b/"
	wantRuns(t, []run{
		// six of one name make room for six
		{"state a/.enter" + sends(6, "send y 1 as i") + sends(6, "send y 1 as j") + "/.on x do cancel i" + room, "x y", "0: a; x 0: a; y 0: a"},
		{"state a/.enter" + sends(5, "send y 1 as i") + sends(7, "send y 1 as j") + "/.on x do cancel i" + room, "x y", "0: a; x 0: a; y 0: b"},
		{"state a/.enter" + strings.Repeat(" do send y 1 as j do send y 1 as i", 6) + "/.on x do cancel i" + room, "x y", "0: a; x 0: a; y 0: a"},
		// the event is not the name, and a timer without a name is of none
		{"state a/.enter" + sends(12, "send i 1 as j") + "/.on x do cancel i" + room, "x y", "0: a; x 0: a; y 0: b"},
		{"state a/.enter" + sends(12, "send i 1") + "/.on x do cancel i" + room, "x y", "0: a; x 0: a; y 0: b"},
		{"state a/.on x do cancel i/", "x", "0: a; x 0: a"},
		// reserved names are names, where there is no move behind a delay
		{"state a/.enter" + sends(6, "send y 1 as after.1") + sends(6, "send y 1 as after.2") + "/.on x do cancel after.1" + room, "x y", "0: a; x 0: a; y 0: a"},
		// a timer that is stopped may be started again
		{"state a/.on x do cancel i" + sends(12, "send y 1 as i") + "/.on full to b/state b/", "x x x", "0: a; x 0: a; x 0: a; x 0: a"},
	})
}

// TestTimersOfMoves: they are stopped when their state is left, and only then.
func TestTimersOfMoves(t *testing.T) {
	seven := strings.Repeat("/.after 1", 7)
	wantRuns(t, []run{
		{"state a/.on x to a/.on full to b" + seven + "/state b/", "x x x", "0: a; x 0: a; x 0: a; x 0: a"},
		{"state a/.on x to c/.on full to b" + seven + "/state b/state c/.on x to a/.enter" + sends(12, "send y 1 as i") + "/.leave do cancel i/.on full to b/", "x x x", "0: a; x 0: c; x 0: a; x 0: c"},
		// behind the actions of the leave line, which still find them running
		{"state a/.on x to c" + seven + "/.leave" + sends(5, "send y 1") + "/state b/state c/.on full to b/", "x", "0: a; x 0: c"},
		{"state a/.on x to c" + seven + "/.leave" + sends(6, "send y 1") + "/state b/state c/.on full to b/", "x", "0: a; x 0: b"},
		// but ahead of those of the move
		{"state a/.on x to c" + sends(12, "send y 1") + seven + "/state b/state c/.on full to b/", "x", "0: a; x 0: c"},
		// timers that were sent go on when their state is left
		{"state a/.on x to c" + sends(12, "send y 1 as i") + "/state b/state c/.on full to b/.on y do send y 1/", "x y", "0: a; x 0: c; y 0: b"},
		// timers of a state that is not left go on
		{"state a/.after 1/.after 1/.after 1/.after 1/.after 1/.after 1/.on full to e/.state b/..on x to c/.state c/..enter" + sends(7, "send y 1") + "/state e/", "x", "0: a b; x 0: e"},
	})
}

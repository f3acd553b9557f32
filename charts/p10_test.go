package charts_test

import (
	"strings"
	"testing"
)

// sends is so many actions that each start a timer.
func sends(n int, action string) string { return strings.Repeat(" do "+action, n) }

// TestFull: twelve timers run; one more does not start, and raises `full`.
func TestFull(t *testing.T) {
	wantRuns(t, []run{
		{"state a/.on x" + sends(12, "send y 1") + "/.on full to b/state b/", "x", "0: a; x 0: a"},
		{"state a/.on x" + sends(13, "send y 1") + "/.on full to b/state b/", "x", "0: a; x 0: b"},
		{"state a/.enter" + sends(12, "send y 1 as i") + "/.on x do send y 1/.on full to b/state b/", "x", "0: a; x 0: b"},
		// one `full` for each that is too many, among what else is raised
		{"state a/.enter" + sends(12, "send y 1") + "/.on x" + sends(3, "send y 1") + "/.on full to b/state b/.on full to c/state c/.on full to d/state d/.on full to e/state e/", "x", "0: a; x 0: d"},
		{"state a/.enter" + sends(12, "send y 1") + "/.on x do raise p do send y 1 do raise q/.on p to b/state b/.on full to c/state c/.on q to d/state d/", "x", "0: a; x 0: d"},
		// a timer that did not start takes no room
		{"state a/.enter" + sends(14, "send y 1 as i") + "/.on full to b/.state c/..on full/..on x to d do cancel i" + sends(12, "send y 1") + "/.state d/..on y do send y 1/state b/", "x y", "0: a c; x 0: a d; y 0: b"},
		// the timer of a move behind a delay counts, and raises `full` like others
		{"state a/.enter" + sends(11, "send y 1") + "/.after 5/.on full to b/state b/", "", "0: a"},
		{"state a/.enter" + sends(12, "send y 1") + "/.after 5/.on full to b/state b/", "", "0: b"},
		{"state a/.enter" + sends(11, "send y 1") + "/.after 5/.after 6/.on full to b/state b/", "", "0: b"},
	})
}

// TestCancel: all timers of that name are stopped, and no others.
func TestCancel(t *testing.T) {
	const room = "/.on y" + " do send z 1 do send z 1 do send z 1 do send z 1 do send z 1 do send z 1" + "/.on full to b/state b/"
	wantRuns(t, []run{
		// six of one name make room for six
		{"state a/.enter" + sends(6, "send y 1 as i") + sends(6, "send y 1 as j") + "/.on x do cancel i" + room, "x y", "0: a; x 0: a; y 0: a"},
		{"state a/.enter" + sends(5, "send y 1 as i") + sends(7, "send y 1 as j") + "/.on x do cancel i" + room, "x y", "0: a; x 0: a; y 0: b"},
		{"state a/.enter" + strings.Repeat(" do send y 1 as j do send y 1 as i", 6) + "/.on x do cancel i" + room, "x y", "0: a; x 0: a; y 0: a"},
		// the event is not the name, and a timer without a name is of none
		{"state a/.enter" + sends(12, "send i 1 as j") + "/.on x do cancel i" + room, "x y", "0: a; x 0: a; y 0: b"},
		{"state a/.enter" + sends(12, "send i 1") + "/.on x do cancel i" + room, "x y", "0: a; x 0: a; y 0: b"},
		{"state a/.on x do cancel i/", "x", "0: a; x 0: a"},
		// reserved names are names, where there is no move behind a delay
		{"state a/.enter" + sends(6, "send y 1 as after.1") + sends(6, "send y 1 as after.2") + "/.on x do cancel after.1" + room, "x y", "0: a; x 0: a; y 0: a"},
		// a timer that is stopped may be started again
		{"state a/.on x do cancel i" + sends(12, "send y 1 as i") + "/.on full to b/state b/", "x x x", "0: a; x 0: a; x 0: a; x 0: a"},
	})
}

// TestTimersOfMoves: they are stopped when their state is left, and only then.
func TestTimersOfMoves(t *testing.T) {
	seven := strings.Repeat("/.after 1", 7)
	wantRuns(t, []run{
		{"state a/.on x to a/.on full to b" + seven + "/state b/", "x x x", "0: a; x 0: a; x 0: a; x 0: a"},
		{"state a/.on x to c/.on full to b" + seven + "/state b/state c/.on x to a/.enter" + sends(12, "send y 1 as i") + "/.leave do cancel i/.on full to b/", "x x x", "0: a; x 0: c; x 0: a; x 0: c"},
		// behind the actions of the leave line, which still find them running
		{"state a/.on x to c" + seven + "/.leave" + sends(5, "send y 1") + "/state b/state c/.on full to b/", "x", "0: a; x 0: c"},
		{"state a/.on x to c" + seven + "/.leave" + sends(6, "send y 1") + "/state b/state c/.on full to b/", "x", "0: a; x 0: b"},
		// but ahead of those of the move
		{"state a/.on x to c" + sends(12, "send y 1") + seven + "/state b/state c/.on full to b/", "x", "0: a; x 0: c"},
		// timers that were sent go on when their state is left
		{"state a/.on x to c" + sends(12, "send y 1 as i") + "/state b/state c/.on full to b/.on y do send y 1/", "x y", "0: a; x 0: c; y 0: b"},
		// timers of a state that is not left go on
		{"state a/.after 1/.after 1/.after 1/.after 1/.after 1/.after 1/.on full to e/.state b/..on x to c/.state c/..enter" + sends(7, "send y 1") + "/state e/", "x", "0: a b; x 0: e"},
	})
}

// TestSend: a timer fires at the time at hand plus the delay, once, with its event.
func TestSend(t *testing.T) {
	wantRuns(t, []run{
		{"state a/.enter do send x 3/.on x to b/state b/.on x to a/", "@2 @3 @99", "0: a; x 3: b"},
		{"state a/.on g do send x 3/", "@7 g @9 g @10 @11 @12", "0: a; g 7: a; g 9: a; x 10: a; x 12: a"},
		// whatever the event: one that nothing awaits, a reserved one, one that the program raises itself
		{"state a/.enter do send q 1 do send after.9 2 do send full 3/.on after.9 to b/state b/.on full to c/state c/", "@9", "0: a; q 1: a; after.9 2: b; full 3: c"},
		// its name is not its event
		{"state a/.enter do send x 1 as y/.on y to b/.on x to c/state b/state c/", "@9", "0: a; x 1: c"},
		// from what is left, moved and entered, one behind the other
		{"state a/.on g to b do send y 4/.leave do send x 4/state b/.enter do send z 4/.after 4/", "@1 g @9", "0: a; g 1: b; x 5: b; y 5: b; z 5: b; after.6 5: b"},
		// of the start, and of a turn that a timer begins
		{"state a/.enter do raise e/.on e do send x 2/.on x do send y 2/.on y do raise w/.on w do send v 2/", "@9", "0: a; x 2: a; y 4: a; v 6: a"},
	})
}

// TestSendAboveTheGreatestTime: a timer of which the sum would be above it fires at the greatest time.
func TestSendAboveTheGreatestTime(t *testing.T) {
	const sending = "state a/.on g do send x 9223372036854775808 do send y 18446744073709551615 do send z 1 do send w 0/"
	wantRests(t, []rest{
		{sending, "g", 0, "w 0; z 1; x 9223372036854775808; y 18446744073709551615"},
		{sending, "@1 g", 1, "w 1; z 2; x 9223372036854775809; y 18446744073709551615"},
		{sending, "@9223372036854775807 g", 1<<63 - 1, "w 9223372036854775807; z 9223372036854775808; x 18446744073709551615; y 18446744073709551615"},
		{sending, "@9223372036854775808 g", 1 << 63, "w 9223372036854775808; z 9223372036854775809; x 18446744073709551615; y 18446744073709551615"},
		{sending, "@18446744073709551614 g", 1<<64 - 2, "w 18446744073709551614; x 18446744073709551615; y 18446744073709551615; z 18446744073709551615"},
		{sending, "@18446744073709551615 g", 1<<64 - 1, "x 18446744073709551615; y 18446744073709551615; z 18446744073709551615; w 18446744073709551615"},
	})
	wantRuns(t, []run{
		{sending, "@18446744073709551614 g @18446744073709551614 @18446744073709551615", "0: a; g 18446744073709551614: a; w 18446744073709551614: a; x 18446744073709551615: a; y 18446744073709551615: a; z 18446744073709551615: a"},
		{sending, "@18446744073709551615 g @0", "0: a; g 18446744073709551615: a; x 18446744073709551615: a; y 18446744073709551615: a; z 18446744073709551615: a; w 18446744073709551615: a"},
		// a move behind a delay, too
		{"state a/.on g to b/state b/.after 18446744073709551615 to c/state c/", "@5 g @18446744073709551614 @18446744073709551615", "0: a; g 5: b; after.4 18446744073709551615: c"},
	})
}

// TestFullInTime: a timer that has fired makes room, for its own turn already.
func TestFullInTime(t *testing.T) {
	wantRuns(t, []run{
		{"state a/.enter" + sends(11, "send y 5") + " do send x 3/.on x do send z 9/.on full to b/state b/", "@9", "0: a; x 3: a" + strings.Repeat("; y 5: a", 11)},
		{"state a/.enter" + sends(12, "send x 1") + "/.on x do send y 1/.on full to b/state b/", "@1", "0: a" + strings.Repeat("; x 1: a", 12)},
		{"state a/.enter" + sends(12, "send x 1") + "/.on x do send y 1 do send y 1/.on full to b/state b/", "@1", "0: a; x 1: b" + strings.Repeat("; x 1: b", 11)},
		{"state a/.enter" + sends(12, "send x 1") + "/.on g do send y 1/.on full to b/state b/", "@0 g", "0: a; g 0: b"},
		{"state a/.enter" + sends(12, "send x 1") + "/.on g do send y 1/.on full to b/state b/", "@1 g", "0: a" + strings.Repeat("; x 1: a", 12) + "; g 1: a"},
	})
	wantRests(t, []rest{
		// what is too many does not start, also if it would fire first
		{"state a/.enter" + sends(12, "send x 9") + " do send y 0 do send z 1 as i/", "", 0, strings.TrimSuffix(strings.Repeat("x 9; ", 12), "; ")},
		{"state a/.enter" + sends(12, "send x 9 as i") + " do send y 0 do cancel i do send z 1/", "", 0, "z 1"},
	})
}

// TestCancelInTime: what is stopped does not fire, also if that is at the same time, or in the turn of another timer.
func TestCancelInTime(t *testing.T) {
	wantRuns(t, []run{
		{"state a/.enter do send x 1 do send x 2 do send x 3 as k/.on x do cancel k/", "@9", "0: a; x 1: a; x 2: a"},
		// about to fire at the same time
		{"state a/.enter do send x 5 do send y 5 as k do send z 5 do send w 5 as k/.on x do cancel k/", "@5", "0: a; x 5: a; z 5: a"},
		{"state a/.enter do send x 5 as k do send y 5 as k/.on x do cancel k/", "@5", "0: a; x 5: a"},
		{"state a/.enter do send x 5 as k do send y 5 as k/.on y do cancel k/", "@5", "0: a; x 5: a; y 5: a"},
		// several of one name, in all wheels, and outside
		{"state a/.enter do send x 0 as k do send x 64 as k do send x 4096 as k do send x 262144 as k do send x 16777216 as k do send x 1073741824 as k do send x 68719476736 as k do send y 68719476736/.on g do cancel k/", "g @18446744073709551615", "0: a; g 0: a; y 68719476736: a"},
		{"state a/.enter do send x 0 as k do send x 64 as k do send x 4096 as k do send x 262144 as k do send x 16777216 as k do send x 1073741824 as k do send x 68719476736 as k do send y 68719476736/.on g do cancel k/", "@4096 g @18446744073709551615", "0: a; x 0: a; x 64: a; x 4096: a; g 4096: a; y 68719476736: a"},
		// what is started behind a cancel runs
		{"state a/.enter do send x 3 as k/.on g do cancel k do send y 3 as k/", "@1 g @9", "0: a; g 1: a; y 4: a"},
		{"state a/.enter do send x 3 as k/.on g do send y 3 as k do cancel k/", "@1 g @9", "0: a; g 1: a"},
		// a timer that has fired is not there to be stopped, and starts anew by its name
		{"state a/.enter do send x 1 as k/.on x do cancel k do send x 2 as k/.on y do cancel k/", "@4 y @9", "0: a; x 1: a; x 3: a; y 4: a"},
	})
}

// TestMovesBehindADelay: they are taken when the state was active for so long without a break.
func TestMovesBehindADelay(t *testing.T) {
	wantRuns(t, []run{
		{door, "open @3 close open @5 @7 @8", "0: shut; open 0: open; close 3: shut; open 3: open; after.4 8: shut"},
		{"state a/.after 5 to b/.on x to a/state b/", "@3 x @7 @8", "0: a; x 3: a; after.2 8: b"},
		{"state a/.after 5 to b/.on x/state b/", "@3 x @5", "0: a; x 3: a; after.2 5: b"},
		{"state a/.after 5 to e/.state b/..after 3 to c/.state c/..after 3 to b/state e/", "@9", "0: a b; after.4 3: a c; after.2 5: e"},
		// of two at one time the first of the text, which is started first, and stops the other
		{"state a/.after 5 to b/.after 5 to c/state b/state c/", "@9", "0: a; after.2 5: b"},
		{"state a/.after 5/.after 5 to c/state b/state c/", "@9", "0: a; after.2 5: a; after.3 5: c"},
		{"state a/.after 6 to b/.after 5 to c/state b/state c/", "@9", "0: a; after.3 5: c"},
		// once only, unless the state is entered again
		{"state a/.after 2 do send x 1/", "@9", "0: a; after.2 2: a; x 3: a"},
		{"parallel p/.state a/..after 2 to c/.state b/..after 2 to d/state c/state d/", "@9", "0: p a b; after.3 2: c"},
	})
}

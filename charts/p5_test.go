package charts_test

import (
	"strconv"
	"strings"
	"testing"

	"charts/api"
	"charts/charts"
)

// TestUnchanged: charts in which nothing is lowered and all lines stand in their order already.
func TestUnchanged(t *testing.T) {
	for _, s := range []string{
		"state a/", "final a/", "state a_9bcdef/", "parallel p/.state a/..final f/..history h/..history g deep/.history i/final e/.enter do raise x/.leave do raise y/",
		"state a/.on x/.on y to a/.on z do raise x/.on w to a do cancel i do send x 18446744073709551615 as j do send y 0/",
		"state a/.on done.a/.on after.1500 to a do raise after.3 do send after.4 1 as after.5 do cancel after.6/",
		"state a/.enter do send after.2 5 as after.2/.leave do cancel after.2/.on after.2/",
		"state a/.enter do raise x do raise x/.leave do cancel x/.on x/.on x/.state b/..on x to a/.state c/",
		deepest + "......enter do raise x/......leave do raise x/......on x to a/",
	} {
		wantLower(t, text(s), text(s))
	}
}

func TestLowered(t *testing.T) {
	for _, c := range [][2]string{
		// the document's own
		{"state shut/.on open to open/state open/.after 5 to shut/.on close to shut/",
			"state shut/.on open to open/state open/.enter do send after.4 5 as after.4/.leave do cancel after.4/.on after.4 to shut/.on close to shut/"},
		// each form of a move behind a delay, and the edges of delays
		{"state a/.after 0/", "state a/.enter do send after.2 0 as after.2/.leave do cancel after.2/.on after.2/"},
		{"state a/.after 18446744073709551615 to a do raise x do cancel y/",
			"state a/.enter do send after.2 18446744073709551615 as after.2/.leave do cancel after.2/.on after.2 to a do raise x do cancel y/"},
		{"state a/.after 7 do send x 1 as y do send x 2/",
			"state a/.enter do send after.2 7 as after.2/.leave do cancel after.2/.on after.2 do send x 1 as y do send x 2/"},
		// own actions come ahead, wherever their lines stand
		{"state a/.leave do raise l/.state b/..after 7/.after 0 do raise q/.enter do raise e/..on x/.on y/.after 9 to b/",
			"state a/.enter do raise e do send after.5 0 as after.5 do send after.9 9 as after.9/.leave do raise l do cancel after.5 do cancel after.9/.on after.5 do raise q/.on y/.on after.9 to b/.state b/..enter do send after.4 7 as after.4/..leave do cancel after.4/..on after.4/..on x/"},
		{"state a/.after 1/.enter do raise e do cancel f/",
			"state a/.enter do raise e do cancel f do send after.2 1 as after.2/.leave do cancel after.2/.on after.2/"},
		{"state a/.after 1/.leave do raise e do cancel f/",
			"state a/.enter do send after.2 1 as after.2/.leave do raise e do cancel f do cancel after.2/.on after.2/"},
		// moves keep their order among themselves
		{"state a/.on x/.after 2/.on y/.after 1/.on z/",
			"state a/.enter do send after.3 2 as after.3 do send after.5 1 as after.5/.leave do cancel after.3 do cancel after.5/.on x/.on after.3/.on y/.on after.5/.on z/"},
		// the lines of a state come ahead of its states, and stand in one order
		{"state a/.state b/.on x to b/.leave do raise l/.enter do raise e/",
			"state a/.enter do raise e/.leave do raise l/.on x to b/.state b/"},
		{"state a/.state b/..state c/..on i/.on o/..on j/",
			"state a/.on o/.state b/..on i/..on j/..state c/"},
		{"parallel p/.state a/.state b/..after 3/.on x/.history h deep/.after 4/final f/.leave do raise l/.enter do raise e/",
			"parallel p/.enter do send after.7 4 as after.7/.leave do cancel after.7/.on x/.on after.7/.state a/.state b/..enter do send after.4 3 as after.4/..leave do cancel after.4/..on after.4/.history h deep/final f/.enter do raise e/.leave do raise l/"},
	} {
		wantLower(t, text(c[0]), text(c[1]))
	}
}

// TestLongerThanAChart: what comes out may be above the bound of what goes in.
func TestLongerThanAChart(t *testing.T) {
	const moves = 150
	enter, leave, on := " enter", " leave", ""
	for i := range moves {
		event := "after." + strconv.Itoa(i+2)
		enter += " do send " + event + " 1 as " + event
		leave += " do cancel " + event
		on += " on " + event + "\n"
	}
	want := "state a\n" + enter + "\n" + leave + "\n" + on
	if len(want) <= api.MaxText {
		t.Fatalf("the text has %d bytes", len(want))
	}
	wantLower(t, "state a\n"+strings.Repeat(" after 1\n", moves), want)
}

// TestFaultsOfExamples: the document's table.
func TestFaultsOfExamples(t *testing.T) {
	for _, c := range []struct {
		text string
		e    api.Errno
		line int
	}{
		{"state a", api.ErrSyntax, 1}, {"", api.ErrSyntax, 1}, {"state a/.on x to/", api.ErrSyntax, 2}, {"state a/.after 01/", api.ErrSyntax, 2},
		{".state a/", api.ErrTree, 1}, {"on x/", api.ErrTree, 1}, {"history h/", api.ErrTree, 1}, {"state a/..state b/", api.ErrTree, 2}, {"state a/.history h/", api.ErrTree, 2}, {"final a/.on x/", api.ErrTree, 2}, {"state a/parallel p/.history h/", api.ErrTree, 2},
		{"state a/state a/", api.ErrName, 2}, {"state a/.on after.3/.after 3/", api.ErrName, 2},
	} {
		wantFault(t, text(c.text), c.e, c.line)
	}
}

// TestFaultsAreNew: no two calls hand out one fault.
func TestFaultsAreNew(t *testing.T) {
	_, err := charts.Lower("x\n")
	if f, ok := err.(*api.Fault); ok {
		f.Line = 99
	}
	wantFault(t, "x\n", api.ErrSyntax, 1)
}

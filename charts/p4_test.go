package charts_test

import (
	"strings"
	"testing"

	"charts/api"
)

var nameFaults = []faultCase{
	// a state's name twice
	{"state a/state a/", 2}, {"state a/.state a/", 2}, {"state a/.state b/state b/", 3}, {"state a/final a/", 2}, {"state a/parallel a/.state b/", 2}, {"state a/.state b/.history a/", 3}, {"state a/.state b/.history h/.history h deep/", 4}, {"state a/state b/state a/state b/", 3}, {"state a/state a/state a/", 2},
	// a move to nothing
	{"state a/.on x to b/", 2}, {"state a/.after 3 to b/", 2}, {"state a/.on x to x/", 2}, {"state a/.on done.a to b do raise x/", 2}, {"state a/.on x to a/.on x to b/.on x to c/", 3}, {"state a/.state b/..on x to c/.history h/", 3},
	// a reserved name beside a move behind a delay
	{"state a/.on after.3/.after 3/", 2}, {"state a/.after 3/.on after.2/", 3}, {"state a/.after 3/.on after.1500/", 3}, {"state a/.after 3/.on x to a do raise after.9/", 3}, {"state a/.after 3 do raise after.2/", 2}, {"state a/.after 3 to a do send x 1 as after.2/", 2}, {"state a/.after 3 do send after.2 1/", 2}, {"state a/.after 3 do send after.2 1 as x/", 2}, {"state a/.after 3 do cancel after.2/", 2}, {"state a/.after 3 do raise x do raise y do cancel after.2/", 2},
	{"state a/.after 3/.enter do raise after.2/", 3}, {"state a/.after 3/.enter do cancel after.2/", 3}, {"state a/.after 3/.leave do send x 0 as after.7/", 3}, {"state a/.leave do send after.7 1/state b/.after 1/", 2}, {"final a/.enter do raise after.1/state b/.after 1/", 2},
	// of two faults: the upper one
	{"state a/.on x to b/state a/", 2}, {"state a/.state b/.on x to c/.state b/", 3}, {"state a/state a/.on x to c/", 2}, {"state a/.on x to c/.on after.1/.after 1/", 2}, {"state a/.on after.1/.on x to c/.after 1/", 2}, {"state a/state a/.on after.1/.after 1/", 2}, {"state a/.on after.1/state a/.after 1/", 2},
	// lines below those of inner states come in their place
	{"state a/.state b/..on x to c/.on x to d/", 3}, {"state a/.state b/.on x to c/..on x to d/", 3}, {"state a/.state b/..on x/.on x to c/state a/", 4},
}

func TestNameFaults(t *testing.T) {
	for _, c := range nameFaults {
		wantFault(t, text(c.text), api.ErrName, c.line)
	}
}

// TestTreeAheadOfNames: a fault of P3, or of P2, in the last line comes ahead of each fault of P4.
func TestTreeAheadOfNames(t *testing.T) {
	for _, c := range nameFaults {
		s := text(c.text)
		last := strings.Count(s, "\n") + 1
		wantFault(t, s+"on x\n", api.ErrTree, last)
		wantFault(t, s+"history z\n", api.ErrTree, last)
		wantFault(t, s+"parallel z\n", api.ErrTree, last)
		wantFault(t, s+"on X\n", api.ErrSyntax, last)
		wantFault(t, s+"state z", api.ErrSyntax, last)
	}
}

func TestNames(t *testing.T) {
	for _, s := range []string{
		"state a/.on x to b/state b/", "state a/.on x to a/", "state a/.state b/..on x to a/", "state a/.state b/.history h/.on x to h/", "state a/.after 1 to b/final b/",
		"state a/.on a/.on b/.on done.b/.enter do raise c do cancel d do send e 1 as f/", "state to/.on to to to/",
		"state after/.after 1 to after/.on after do raise after do send after 1 as after do cancel after/", "state a/.after 1/.on done.after/", "state aftera/.after 1/",
		"state a/.on after.1/.on after.1500 do raise after.3 do send after.4 1 as after.5 do cancel after.6/.enter do raise after.2/",
		"state a/.on x/.on x/.on x to a/", "state a/.after 1/.after 1/",
	} {
		wantChart(t, text(s))
	}
}

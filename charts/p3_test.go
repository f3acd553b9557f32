package charts_test

import (
	"strconv"
	"strings"
	"testing"

	"charts/api"
)

type faultCase struct {
	text string
	line int
}

const deepest = "state a/.state b/..state c/...state d/....state e/.....state f/"

var treeFaults = []faultCase{
	// where a line may stand
	{".state a/", 1}, {"..state a/", 1}, {"on x/", 1}, {"after 1/", 1}, {"enter do raise x/", 1}, {"leave do raise x/", 1}, {"history h/", 1}, {"history h deep/", 1},
	{".on x/", 1}, {"state a/on x/", 2}, {"state a/after 1/", 2}, {"state a/enter do raise x/", 2}, {"state a/leave do raise x/", 2}, {"state a/history h/", 2}, {"state a/history h deep/", 2},
	{"state a/..state b/", 2}, {"state a/..on x/", 2}, {"state a/..enter do raise x/", 2}, {"state a/...after 1/", 2},
	{"state a/.state b/state c/..on x/", 4}, {"state a/.state b/state c/..state d/", 4}, {"state a/.state b/..state c/.state d/...on x/", 5}, {"state a/.state b/..state c/state d/.state e/...leave do raise x/", 6},
	{"state a/.on x/..on y/", 3}, {"state a/.enter do raise x/..state b/", 3},
	// what may belong to what
	{"final a/.state b/", 2}, {"final a/.parallel b/", 2}, {"final a/.final b/", 2}, {"final a/.history h/", 2}, {"final a/.history h deep/", 2},
	{"state a/.state b/.history h/..state c/", 4}, {"state a/.state b/.history h deep/..state c/", 4}, {"state a/.state b/.history h/..final c/", 4}, {"state a/.state b/.history h/..history c/", 4}, {"state a/.state b/.history h deep/..parallel c/", 4},
	{"parallel p/.final a/", 2}, {"parallel p/.state a/.final b/", 3}, {"state a/.parallel p/..state b/..final c/", 4},
	{"state a/.history h/", 2}, {"state a/.history h deep/", 2}, {"state a/.history h/.state b/", 2}, {"state a/.on x/.enter do raise x/.history h/.state b/", 4}, {"parallel p/.state a/..history h/", 3},
	{"final a/.on x/", 2}, {"final a/.after 1/", 2}, {"final a/.enter do raise x/.on x/", 3}, {"state a/.final b/..on x to a/", 3},
	{"state a/.state b/.history h/..on x/", 4}, {"state a/.state b/.history h deep/..on x/", 4}, {"state a/.state b/.history h/..after 1/", 4}, {"state a/.state b/.history h/..enter do raise x/", 4}, {"state a/.state b/.history h/..leave do raise x/", 4}, {"state a/.state b/.history h deep/..enter do raise x/", 4}, {"state a/.state b/.history h deep/..leave do raise x/", 4},
	{"state a/.enter do raise x/.enter do raise x/", 3}, {"state a/.leave do raise x/.leave do raise y/", 3}, {"state a/.enter do raise x/.on x/.leave do raise x/.state b/..enter do raise x/.enter do raise x/", 7}, {"state a/.leave do raise x/.state b/..leave do raise x/.leave do raise x/", 5}, {"final a/.enter do raise x/.enter do raise x/", 3},
	{deepest + "......state g/", 7}, {deepest + "......final g/", 7}, {deepest + "......history g/", 7}, {deepest + ".....history g/......state h/", 8},
	// parallel states in which nothing could be active
	{"parallel p/", 1}, {"parallel p/.history h/", 1}, {"parallel p/.history h/.history g deep/.on x/", 1}, {"state a/parallel p/.history h/", 2}, {"parallel p/parallel q/", 1}, {"parallel p/.parallel q/", 2}, {"parallel p/.state a/parallel q/.history h/parallel r/", 3}, {"parallel p/.parallel q/..history h/.state a/", 2},
	// of two faults: the upper one, but lines that stand wrong ahead of parallel states
	{"parallel p/on x/", 2}, {"parallel p/.history h/state a/..on x/", 4}, {"parallel p/.final a/.final b/", 2}, {"state a/on x/history h/", 2},
}

func TestTreeFaults(t *testing.T) {
	for _, c := range treeFaults {
		wantFault(t, text(c.text), api.ErrTree, c.line)
	}
}

// TestSyntaxAheadOfTree: a fault of P2 in the last line comes ahead of each fault of P3.
func TestSyntaxAheadOfTree(t *testing.T) {
	for _, c := range treeFaults {
		s := text(c.text)
		last := strings.Count(s, "\n") + 1
		wantFault(t, s+"x\n", api.ErrSyntax, last)
		wantFault(t, s+"state z", api.ErrSyntax, last)
		wantFault(t, s+" \n", api.ErrSyntax, last)
	}
	wantFault(t, text(".state a/x/"), api.ErrSyntax, 2)
}

func TestTrees(t *testing.T) {
	for _, s := range []string{
		"state a/", "final a/", "state a/final b/", "parallel p/.state a/", "parallel p/.parallel q/..state a/", "parallel p/.history h/.state a/", "parallel p/.history h/.history g deep/.parallel q/..state a/",
		"state a/.state b/.history h/", "state a/.final b/.history h deep/", "state a/.parallel b/..state c/.history h/.state d/",
		"final a/.enter do raise x/.leave do raise y/", "state a/.leave do raise x/.enter do raise x/", "state a/.enter do raise x/.state b/..enter do raise x/",
		"state a/.state b/..state c/..on x/.on x/.state d/..on x/state e/.on x/", "state a/.state b/..state c/.on x/..on x/...on x/",
		deepest, deepest + "......on x/......after 1/", deepest + "......enter do raise x/......leave do raise x/", strings.Replace(deepest, "state f", "final f", 1), deepest + ".....history g deep/",
	} {
		wantChart(t, text(s))
	}
}

// TestCountOfStates: 24 states and one more, of whatever kind.
func TestCountOfStates(t *testing.T) {
	for _, kinds := range [][2]string{{"state ", ""}, {"final ", ""}, {" state ", ""}, {" history ", ""}, {" history ", " deep"}} {
		s := "state a\n state b\n"
		for i := range api.MaxStates - 2 {
			s += kinds[0] + "s" + strconv.Itoa(i) + kinds[1] + "\n"
		}
		wantChart(t, s)
		for _, more := range []string{"state z\n", "final z\n", "parallel z\n", " history z\n"} {
			wantFault(t, s+more, api.ErrTree, api.MaxStates+1)
		}
		wantFault(t, s+"state z\n x\n", api.ErrSyntax, api.MaxStates+2)
	}
}

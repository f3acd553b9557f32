package charts_test

import (
	"math/rand"
	"slices"
	"strings"
	"testing"

	"charts/api"
	"charts/charts"
	"charts/model"
	"charts/reader"
)

// TestEnteredWith: what is entered with a state, at the start and by a move.
func TestEnteredWith(t *testing.T) {
	wantRuns(t, []run{
		{"state a/", "", "0: a"},
		{"final a/", "", "0: a"},
		{"state a/state b/", "", "0: a"},
		{"state a/.state b/.state c/", "", "0: a b"},
		{"state a/.final b/.state c/", "", "0: a b"},
		{"state a/.state b/..state c/...state d/....state e/.....state f/", "", "0: a b c d e f"},
		{"state a/.parallel p/..history h/..state b/..state c/...state d/...state e/..history g deep/..parallel q/...state i/.state j/", "", "0: a p b c d q i"},
		{"parallel p/.state a/.state b/.state c/", "", "0: p a b c"},
		{"parallel p/.history h/.state a/..state b/..history g/.parallel q/..history i deep/..state c/", "", "0: p a b q c"},
		{"state z/.on x to m/state m/.state a/..state b/..state c/.state d/", "x", "0: z; x 0: m a b"},
		{"state z/.on x to p/parallel p/.state a/..state b/.state c/..state d/..state e/", "x", "0: z; x 0: p a b c d"},
		// a move to a state enters what it is in, too, and what stands beside it there
		{"state z/.on x to c/state m/.state a/.state b/..state c/...state d/..state e/", "x", "0: z; x 0: m b c d"},
		{"state z/.on x to e/parallel p/.state a/..state b/..state c/.state d/..state g/..state e/.history h/", "x", "0: z; x 0: p a b d e"},
		{"state z/.on x to d/parallel p/.parallel q/..state a/..state b/.state c/..state e/..state d/.state f/..state g/", "x", "0: z; x 0: p q a b c d f g"},
	})
}

// checkActive asks of the states of a step that they are the names of states, in the order of the text, that may be active at one time.
func checkActive(t *testing.T, s string, c *model.Chart, step api.Step) {
	t.Helper()
	active := make([]bool, len(c.States))
	last := -1
	for _, name := range step.States {
		i := slices.IndexFunc(c.States, func(s model.State) bool { return s.Name == name })
		if i <= last {
			t.Fatalf("P6: %q: %v: not in the order of the text", s, step)
		}
		active[i], last = true, i
	}
	top := 0
	for i, state := range c.States {
		if active[i] && (state.Kind.IsHistory() || state.Owner != model.None && !active[state.Owner]) {
			t.Fatalf("P6: %q: %v: %s may not be active", s, step, state.Name)
		}
		if active[i] && state.Owner == model.None {
			top++
		}
		if active[i] && !partsFit(c, state, active) {
			t.Fatalf("P6: %q: %v: too few or too many of the parts of %s", s, step, state.Name)
		}
	}
	if top != 1 {
		t.Fatalf("P6: %q: %v: %d states of depth 0", s, step, top)
	}
}

func partsFit(c *model.Chart, s model.State, active []bool) bool {
	parts, here := 0, 0
	for _, i := range s.Parts {
		if !c.States[i].Kind.IsHistory() {
			parts++
		}
		if active[i] {
			here++
		}
	}
	if s.Kind == model.Parallel {
		return here == parts
	}
	return here == min(parts, 1)
}

// randomMoves lays a chart's states under moves, enter and leave lines that are picked by chance.
func randomMoves(r *rand.Rand, bare string) string {
	lines := strings.SplitAfter(text(bare), "\n")
	lines = lines[:len(lines)-1]
	names := make([]string, len(lines))
	for i, l := range lines {
		names[i] = strings.Fields(l)[1]
	}
	events := []string{"x", "y", "z", "done." + names[r.Intn(len(names))], "full"}
	var b strings.Builder
	for _, l := range lines {
		b.WriteString(l)
		kind := strings.Fields(l)[0]
		depth := strings.Repeat(" ", len(l)-len(strings.TrimLeft(l, " "))+1)
		for range r.Intn(3) {
			if kind == "state" || kind == "parallel" {
				b.WriteString(depth + "on " + events[r.Intn(len(events))] + " to " + names[r.Intn(len(names))] + "\n")
			}
		}
		if kind != "history" && r.Intn(4) == 0 {
			b.WriteString(depth + "leave do send z 5 do raise " + events[r.Intn(3)] + "\n")
		}
	}
	return b.String()
}

// bare has eight sets of states that may be active at one time.
const bare = "state a/.state b/..state c/..parallel p/...state d/....state e/....final f/....history g deep/...state h/....state i/....final j/...history k/..history l/.parallel q/..parallel r/...state s/...state t/..state u/...final v/...state w/..history o deep/.history m deep/state n/"

// TestActive: whatever is handed in, the states that are told may be active at one time.
func TestActive(t *testing.T) {
	r := rand.New(rand.NewSource(2))
	seen := map[string]int{}
	for range 3000 {
		s := randomMoves(r, bare)
		c, err := reader.Read(s)
		if err != nil {
			t.Fatalf("P2 to P4: %q: %v", s, err)
		}
		x, steps, _ := charts.Start(s)
		for range 12 {
			for _, step := range steps {
				checkActive(t, s, c, step)
				seen[strings.Join(step.States, " ")]++
			}
			steps, _ = x.Event([]string{"x", "y", "z", "q"}[r.Intn(4)])
		}
	}
	if len(seen) != 8 {
		t.Errorf("P6: %d sets of active states were seen, want 8: %v", len(seen), seen)
	}
}
